package lsa

import (
	"bytes"
	"encoding/binary"
	"fmt"
	"math"
	"math/rand"
	"slices"
	"testing"

	"waymark/api"
	"waymark/octet"
)

// edges are numbers at the edges that an Lsa's numbers have, and far off them.
var edges = []int{
	math.MinInt, math.MinInt + 1, -1 << 62, -1 << 32, -64, -2, -1, 0, 1, 2, 3, 15, 16, 17, 63, 64, 65, 66, 127, 128, 129, 255, 256, 257, 258,
	1<<30 - 1, 1 << 30, 1<<30 + 1, 1<<31 - 1, 1 << 31, 1<<31 + 1, 1<<32 - 1, 1 << 32, 1<<32 + 1, 1<<32 + 5,
	1<<62 - 1, 1 << 62, 1<<62 + 1, math.MaxInt - 1, math.MaxInt,
}

// to are links to these nodes, none of which costs as much as another one.
func to(nodes ...int) []api.Link {
	var l []api.Link
	for i, n := range nodes {
		l = append(l, api.Link{To: n, Cost: 100*n + i + 1})
	}
	return l
}

// full are as many links as there may be, of node 3, to nodes up to 64.
func full() []api.Link { return to(1, 2, 4, 5, 6, 7, 8, 9, 20, 30, 40, 50, 61, 62, 63, 64) }

// like is node 3's Lsa that may be, with these links.
func like(links []api.Link) api.Lsa { return api.Lsa{Origin: 3, Seq: 7, Links: links} }

// maybe are Lsas that may be, at the edges of each number.
func maybe() []api.Lsa {
	l := []api.Lsa{
		{Origin: 1, Seq: 1}, {Origin: 64, Seq: 1}, {Origin: 1, Seq: 1 << 62}, {Origin: 64, Seq: 1 << 62}, {Origin: 3, Seq: 7, Links: []api.Link{}},
		{Origin: 1, Seq: 1, Links: []api.Link{{To: 2, Cost: 1}}}, {Origin: 2, Seq: 1, Links: []api.Link{{To: 1, Cost: 1 << 30}}},
		{Origin: 63, Seq: 256, Links: []api.Link{{To: 64, Cost: 1 << 30}}}, {Origin: 64, Seq: 255, Links: []api.Link{{To: 63, Cost: 256}}},
		like(to(1)), like(to(1, 2)), like(to(1, 64)), like(to(2, 4)), like(to(63, 64)), like(full()), like(full()[:15]),
		{Origin: 64, Seq: 0x0102030405060708, Links: to(1, 2, 3, 4, 5, 6, 7, 8, 9, 10, 11, 12, 13, 14, 15, 16)},
		{Origin: 1, Seq: 1 << 61, Links: to(49, 50, 51, 52, 53, 54, 55, 56, 57, 58, 59, 60, 61, 62, 63, 64)},
	}
	return l
}

// never are Lsas that may not be.
func never() []api.Lsa {
	l := []api.Lsa{
		{}, {Origin: 3}, {Seq: 7}, like(to(0)), like(to(3)), like(to(65)), like(to(-1)), like(to(2, 3, 4)), like(to(1, 2, 3)), like(to(3, 4)),
		like(to(4, 4)), like(to(4, 2)), like(to(1, 4, 2)), like(to(1, 4, 4)), like(to(1, 4, 4, 5)), like(to(2, 1, 4)), like(to(0, 1)), like(to(64, 65)),
		like(to(1, 2, 4, 5, 6, 7, 8, 9, 10, 11, 12, 13, 14, 15, 16, 17, 18)),
		like(slices.Repeat(to(4), 17)), like(make([]api.Link, 16)), like(make([]api.Link, 17)), like(make([]api.Link, 300)),
	}
	for i := range full() {
		for _, n := range []int{3, 0, -1, 65, full()[max(i, 1)-1].To, full()[min(i, 14)+1].To} {
			if n != full()[i].To {
				x := like(full())
				x.Links[i].To = n
				l = append(l, x)
			}
		}
		for _, cost := range []int{0, -1, 1<<30 + 1, 1 << 31, 1<<32 + 1, math.MinInt, math.MaxInt} {
			x := like(full())
			x.Links[i].Cost = cost
			l = append(l, x)
		}
	}
	return l
}

// may tells, as the document words it, whether an Lsa may be.
func may(l api.Lsa) bool {
	isNode := func(n int) bool { return n >= 1 && n <= 64 }
	if !isNode(l.Origin) || l.Seq < 1 || l.Seq > 1<<62 || len(l.Links) > 16 {
		return false
	}
	for i, k := range l.Links {
		if !isNode(k.To) || k.To == l.Origin || k.Cost < 1 || k.Cost > 1<<30 {
			return false
		}
		for _, ahead := range l.Links[:i] {
			if ahead.To >= k.To {
				return false
			}
		}
	}
	return true
}

// laid are an Lsa's bytes as the document words it, whether it may be or not.
func laid(l api.Lsa) []byte {
	b := []byte{byte(l.Origin)}
	b = binary.BigEndian.AppendUint64(b, uint64(l.Seq))
	b = append(b, byte(len(l.Links)))
	for _, k := range l.Links {
		b = append(b, byte(k.To))
		b = binary.BigEndian.AppendUint32(b, uint32(k.Cost))
	}
	return b
}

// seen is, as the document words it, the Lsa whose bytes b begins with, and how many they are; -1, if there is none.
func seen(b []byte) (api.Lsa, int) {
	if len(b) < 10 || len(b) < 10+5*int(b[9]) {
		return api.Lsa{}, -1
	}
	seq := binary.BigEndian.Uint64(b[1:9])
	l := api.Lsa{Origin: int(b[0]), Seq: int(min(seq, math.MaxInt))}
	for i := range int(b[9]) {
		k := b[10+5*i:]
		l.Links = append(l.Links, api.Link{To: int(k[0]), Cost: int(binary.BigEndian.Uint32(k[1:5]))})
	}
	if !may(l) {
		return api.Lsa{}, -1
	}
	return l, 10 + 5*len(l.Links)
}

// equal tells whether Lsas are alike, by the tests' own words; an empty list and no list are.
func equal(a, b api.Lsa) bool {
	if a.Origin != b.Origin || a.Seq != b.Seq || len(a.Links) != len(b.Links) {
		return false
	}
	for i := range a.Links {
		if a.Links[i] != b.Links[i] {
			return false
		}
	}
	return true
}

// isRead fails if another Lsa is read, or if another number of bytes is left behind it.
func isRead(t *testing.T, b []byte, want api.Lsa, left int) {
	t.Helper()
	r := octet.Read(b)
	if got, ok := Read(r); !ok || !equal(got, want) || r.Wrong() || r.Left() != left {
		t.Errorf("Read of %d bytes = %v, %v, %d left, want %v, %d left", len(b), got, ok, r.Left(), want, left)
	}
}

// isNone fails if an Lsa is read, or if something is answered beside the false.
func isNone(t *testing.T, b []byte, what string) {
	t.Helper()
	if got, ok := Read(octet.Read(b)); ok || got.Origin != 0 || got.Seq != 0 || got.Links != nil {
		t.Errorf("%s: Read = %v, %v", what, got, ok)
	}
}

// asWords fails if Read answers something else than the document's words; it tells whether there is an Lsa.
func asWords(t *testing.T, b []byte) bool {
	t.Helper()
	want, n := seen(b)
	if n < 0 {
		isNone(t, b, fmt.Sprintf("%x", b))
		return false
	}
	isRead(t, b, want, len(b)-n)
	return true
}

// isRight fails if Check answers something else than the document's words.
func isRight(t *testing.T, l api.Lsa) {
	t.Helper()
	want := api.ErrArg
	if may(l) {
		want = api.OK
	}
	if e := Check(l); e != want {
		t.Errorf("Check(%v) = %d, want %d", l, e, want)
	}
}

// Ls1: Check, of Lsas that may be and that may not, at each edge.
func TestCheckKnown(t *testing.T) {
	for _, l := range maybe() {
		if e := Check(l); e != api.OK {
			t.Errorf("Check(%v) = %d", l, e)
		}
	}
	for _, l := range never() {
		if e := Check(l); e != api.ErrArg {
			t.Errorf("Check(%v) = %d", l, e)
		}
	}
}

// Ls1: Check, of all edges of each number, at each place.
func TestCheckNumbers(t *testing.T) {
	for _, n := range edges {
		isRight(t, api.Lsa{Origin: n, Seq: 7})
		isRight(t, api.Lsa{Origin: n, Seq: 7, Links: to(30)})
		isRight(t, api.Lsa{Origin: 3, Seq: n})
		isRight(t, api.Lsa{Origin: 3, Seq: n, Links: full()})
		for _, o := range edges {
			isRight(t, api.Lsa{Origin: n, Seq: o})
			isRight(t, api.Lsa{Origin: 3, Seq: 7, Links: []api.Link{{To: n, Cost: o}}})
			isRight(t, api.Lsa{Origin: 3, Seq: 7, Links: []api.Link{{To: n, Cost: 5}, {To: o, Cost: 5}}})
		}
		for i := range full() {
			l := like(full())
			l.Links[i].To = n
			isRight(t, l)
			l = like(full())
			l.Links[i].Cost = n
			isRight(t, l)
		}
	}
}

// Ls1: Check, of all nodes as the origin, and as those it is linked to.
func TestCheckNodes(t *testing.T) {
	for origin := -1; origin <= 66; origin++ {
		for a := -1; a <= 66; a++ {
			isRight(t, api.Lsa{Origin: origin, Seq: 7, Links: to(a)})
			for b := -1; b <= 66; b++ {
				isRight(t, api.Lsa{Origin: origin, Seq: 7, Links: to(a, b)})
			}
		}
	}
}

// Ls1: Check, of all numbers of links.
func TestCheckMany(t *testing.T) {
	for n := range 64 {
		l := api.Lsa{Origin: 64, Seq: 7}
		for i := range n {
			l.Links = append(l.Links, api.Link{To: i + 1, Cost: 1})
		}
		want := api.OK
		if n > 16 {
			want = api.ErrArg
		}
		if e := Check(l); e != want {
			t.Errorf("Check of %d links = %d", n, e)
		}
	}
}

// Ls1: Put, at bytes that are known, and the chapter's example.
func TestPutKnown(t *testing.T) {
	for _, c := range []struct {
		b    []byte
		l    api.Lsa
		want string
	}{
		{nil, api.Lsa{Origin: 3, Seq: 7}, "\x03\x00\x00\x00\x00\x00\x00\x00\x07\x00"},
		{[]byte{}, api.Lsa{Origin: 64, Seq: 1 << 62, Links: []api.Link{}}, "\x40\x40\x00\x00\x00\x00\x00\x00\x00\x00"},
		{[]byte("ab"), api.Lsa{Origin: 1, Seq: 0x0102030405060708}, "ab\x01\x01\x02\x03\x04\x05\x06\x07\x08\x00"},
		{nil, api.Lsa{Origin: 3, Seq: 7, Links: []api.Link{{To: 4, Cost: 5}}}, "\x03\x00\x00\x00\x00\x00\x00\x00\x07\x01\x04\x00\x00\x00\x05"},
		{[]byte{9}, api.Lsa{Origin: 63, Seq: 258, Links: []api.Link{{To: 1, Cost: 1 << 30}, {To: 64, Cost: 0x01020304}}},
			"\x09\x3f\x00\x00\x00\x00\x00\x00\x01\x02\x02\x01\x40\x00\x00\x00\x40\x01\x02\x03\x04"},
	} {
		if got := Put(c.b, c.l); string(got) != c.want {
			t.Errorf("Put(%q, %v) = %q, want %q", c.b, c.l, got, c.want)
		}
	}
}

// Ls1: Put, of all that may be, against the document's words; b alone, if it may not be.
func TestPutWords(t *testing.T) {
	for _, b := range [][]byte{nil, {}, {7}, []byte("abc"), make([]byte, 1000)} {
		for _, l := range maybe() {
			if got := Put(b, l); !bytes.Equal(got, append(bytes.Clone(b), laid(l)...)) {
				t.Errorf("Put(%q, %v) = %q", b, l, got)
			}
			if got := Put(b, l); len(got) != len(b)+10+5*len(l.Links) {
				t.Errorf("Put(%q, %v) has %d bytes", b, l, len(got))
			}
		}
		for _, l := range never() {
			if got := Put(b, l); !bytes.Equal(got, b) {
				t.Errorf("Put(%q, %v) = %q", b, l, got)
			}
		}
	}
}

// Ls1: Read, at bytes that are known: what stands behind is left.
func TestReadKnown(t *testing.T) {
	b := []byte("\x03\x00\x00\x00\x00\x00\x00\x01\x02\x02\x04\x01\x02\x03\x04\x40\x40\x00\x00\x00")
	l := api.Lsa{Origin: 3, Seq: 258, Links: []api.Link{{To: 4, Cost: 0x01020304}, {To: 64, Cost: 1 << 30}}}
	isRead(t, b, l, 0)
	isRead(t, append(bytes.Clone(b), 0), l, 1)
	isRead(t, append(bytes.Clone(b), b...), l, len(b))
	isRead(t, []byte("\x40\x40\x00\x00\x00\x00\x00\x00\x00\x00xyz"), api.Lsa{Origin: 64, Seq: 1 << 62}, 3)
	isRead(t, append(laid(like(full())), 1, 2), like(full()), 2)
}

// Ls1: Read begins where the reader stands.
func TestReadFromThere(t *testing.T) {
	r := octet.Read([]byte("\x05\x00\x06\x03\x00\x00\x00\x00\x00\x00\x00\x07\x00\x08"))
	if r.Num(3) != 0x050006 {
		t.Fatal("the reader does not read")
	}
	l, ok := Read(r)
	if !ok || !equal(l, api.Lsa{Origin: 3, Seq: 7}) || r.Num(1) != 8 || !r.Done() {
		t.Errorf("Read = %v, %v", l, ok)
	}
}

// Ls1: bytes that end ahead of an Lsa's end are none's, wherever they end.
func TestReadShort(t *testing.T) {
	for _, l := range maybe() {
		b := laid(l)
		for n := range b {
			isNone(t, b[:n], fmt.Sprintf("%d of the bytes of %v", n, l))
		}
	}
}

// Ls1: the bytes of an Lsa that may not be are none's, whatever stands behind.
func TestReadNever(t *testing.T) {
	for _, l := range never() {
		if len(l.Links) > 255 || seenAsOther(l) {
			continue
		}
		b := laid(l)
		isNone(t, b, fmt.Sprint("the bytes of ", l))
		isNone(t, append(b, laid(like(nil))...), fmt.Sprint("an Lsa behind the bytes of ", l))
	}
	for _, seq := range []uint64{0, 1<<62 + 1, 1<<63 - 1, 1 << 63, 1<<63 + 1, math.MaxUint64 - 1, math.MaxUint64} {
		b := append(binary.BigEndian.AppendUint64([]byte{3}, seq), 0)
		isNone(t, b, fmt.Sprint("Seq ", seq))
	}
	for _, cost := range []uint32{0, 1<<30 + 1, 1 << 31, math.MaxUint32} {
		b := binary.BigEndian.AppendUint32([]byte("\x03\x00\x00\x00\x00\x00\x00\x00\x07\x01\x04"), cost)
		isNone(t, b, fmt.Sprint("Cost ", cost))
	}
}

// seenAsOther tells whether some number of an Lsa that may not be has no bytes of its own, so that those laid are another one's.
func seenAsOther(l api.Lsa) bool {
	_, n := seen(laid(l))
	return n >= 0
}

// Ls1: Read, of all values of each byte, against the document's words.
func TestReadBytes(t *testing.T) {
	for _, l := range []api.Lsa{like(nil), like(to(4)), like(to(1, 2, 30)), like(full())} {
		b := append(laid(l), laid(like(full()))...)
		for i := range laid(l) {
			for x := range 256 {
				turned := bytes.Clone(b)
				turned[i] = byte(x)
				asWords(t, turned)
				asWords(t, turned[:len(laid(l))])
			}
		}
	}
}

// Ls1: Read, of any bytes, against the document's words.
func TestReadAny(t *testing.T) {
	random := rand.New(rand.NewSource(1))
	found := 0
	for range 20000 {
		b := make([]byte, random.Intn(40))
		for i := range b {
			b[i] = byte(random.Intn(6))
		}
		if len(b) > 9 {
			b[9] = byte(random.Intn(4))
		}
		for i := 10; i+5 <= len(b); i += 5 {
			b[i] = byte(i/5 + random.Intn(3))
		}
		if asWords(t, b) {
			found++
		}
	}
	if found < 2000 || found > 18000 {
		t.Errorf("%d are an Lsa's", found)
	}
}

// Ls1: of no reader, of one that Read of octet did not make, and of one that is wrong nothing is read.
func TestReadWrong(t *testing.T) {
	wrong := octet.Read(laid(like(full())))
	wrong.Num(0)
	for i, r := range []*octet.Reader{nil, {}, wrong, octet.Read(nil)} {
		for range 2 {
			if l, ok := Read(r); ok || !equal(l, api.Lsa{}) {
				t.Errorf("reader %d: Read = %v, %v", i, l, ok)
			}
		}
	}
}

// Ls1: Newer, of all origins and Seqs, and whatever the links are.
func TestNewer(t *testing.T) {
	links := [][]api.Link{nil, to(1), to(4, 4), full()}
	for i, a := range edges {
		for k, b := range edges {
			for n := range links {
				x := api.Lsa{Origin: 3, Seq: a, Links: links[n]}
				y := api.Lsa{Origin: 3, Seq: b, Links: links[(i+k)%len(links)]}
				if got := Newer(x, y); got != (i > k) {
					t.Errorf("Newer(%v, %v) = %v", x, y, got)
				}
				x.Origin = 4
				if Newer(x, y) || Newer(y, x) {
					t.Errorf("one of %v, %v is newer", x, y)
				}
			}
			if Newer(api.Lsa{Origin: a, Seq: 2}, api.Lsa{Origin: b, Seq: 1}) != (i == k) || Newer(api.Lsa{Origin: a, Seq: 1}, api.Lsa{Origin: b, Seq: 2}) {
				t.Errorf("of origins %d and %d", a, b)
			}
		}
	}
}

// Ls1: Same, of all pairs, against the tests' own words; and of Lsas that are unlike in one number alone.
func TestSame(t *testing.T) {
	all := append(maybe(), never()...)
	for i, a := range all {
		for k, b := range all {
			if got := Same(a, b); got != equal(a, b) {
				t.Errorf("Same of %d and %d = %v", i, k, got)
			}
		}
	}
	if !Same(like(nil), like([]api.Link{})) || !Same(api.Lsa{}, api.Lsa{Links: []api.Link{}}) {
		t.Error("no list and an empty one are unlike")
	}
	a := like(full())
	for i := range a.Links {
		for _, turn := range []func(b *api.Lsa){
			func(b *api.Lsa) { b.Origin++ }, func(b *api.Lsa) { b.Seq++ }, func(b *api.Lsa) { b.Links[i].To++ },
			func(b *api.Lsa) { b.Links[i].Cost++ }, func(b *api.Lsa) { b.Links = b.Links[:i] },
			func(b *api.Lsa) { b.Links = slices.Delete(b.Links, i, i+1) },
			func(b *api.Lsa) { b.Links[i], b.Links[(i+1)%16] = b.Links[(i+1)%16], b.Links[i] },
		} {
			b := like(full())
			turn(&b)
			if Same(a, b) || Same(b, a) || !Same(b, b) {
				t.Errorf("%v is as %v", b, a)
			}
		}
	}
}

// Ls1: Cost, of all nodes, and of what is none.
func TestCost(t *testing.T) {
	links := full()
	for n := -2; n <= 70; n++ {
		want := 0
		for _, k := range links {
			if k.To == n {
				want = k.Cost
			}
		}
		if got := Cost(like(links), n); got != want {
			t.Errorf("Cost(%d) = %d, want %d", n, got, want)
		}
	}
	for _, n := range edges {
		if Cost(api.Lsa{}, n) != 0 || Cost(like(nil), n) != 0 || Cost(like(to(31)), n) != 0 {
			t.Errorf("a link to %d costs something", n)
		}
	}
	if Cost(like([]api.Link{{To: 4, Cost: 1 << 30}}), 4) != 1<<30 || Cost(like([]api.Link{{To: 1, Cost: 1}, {To: 64, Cost: 9}}), 64) != 9 {
		t.Error("costs at the edges")
	}
}

// Ls1: Cost is that of the first link to a node, also of Lsas that may not be.
func TestCostFirst(t *testing.T) {
	l := api.Lsa{Origin: 3, Links: []api.Link{{To: 9, Cost: 5}, {To: 4, Cost: 6}, {To: 9, Cost: 7}, {To: 4, Cost: 8}, {To: 0, Cost: -3}, {To: 3, Cost: 2}, {To: 70, Cost: 1 << 40}, {To: 5}, {To: 5, Cost: 4}}}
	for n, want := range map[int]int{9: 5, 4: 6, 0: -3, 3: 2, 70: 1 << 40, 5: 0, 1: 0, 10: 0, -1: 0} {
		if got := Cost(l, n); got != want {
			t.Errorf("Cost(%d) = %d, want %d", n, got, want)
		}
	}
}

// Ls1: Copy, of all Lsas, also of those that may not be.
func TestCopy(t *testing.T) {
	for _, l := range append(maybe(), never()...) {
		if got := Copy(l); !equal(got, l) {
			t.Errorf("Copy(%v) = %v", l, got)
		}
	}
}

// Ls2: what is put is read, one behind the other, whatever stands ahead.
func TestPutRead(t *testing.T) {
	b := []byte("ahead")
	for i, l := range maybe() {
		isRead(t, Put(nil, l), l, 0)
		isRead(t, append(Put(nil, l), 1, 2, 3), l, 3)
		b = Put(b, l)
		b = Put(b, never()[i])
	}
	r := octet.Read(b)
	r.Num(5)
	for _, want := range maybe() {
		if got, ok := Read(r); !ok || !equal(got, want) || !Same(got, want) {
			t.Fatalf("Read = %v, %v, want %v", got, ok, want)
		}
	}
	if !r.Done() {
		t.Errorf("%d left", r.Left())
	}
}

// Ls2: any Lsa that may be is read as it was put; bytes that are read are those that it is put as.
func TestPutReadAny(t *testing.T) {
	random := rand.New(rand.NewSource(2))
	for range 3000 {
		l := api.Lsa{Origin: 1 + random.Intn(64), Seq: 1 + random.Intn(1<<62)>>random.Intn(62)}
		for n, many := 1, random.Intn(17); n <= 64 && len(l.Links) < many; n++ {
			if n != l.Origin && random.Intn(3) == 0 {
				l.Links = append(l.Links, api.Link{To: n, Cost: 1 + random.Intn(1<<30)>>random.Intn(30)})
			}
		}
		b := Put(nil, l)
		if !bytes.Equal(b, laid(l)) {
			t.Fatalf("Put(%v) = %x", l, b)
		}
		isRead(t, b, l, 0)
		got, _ := Read(octet.Read(b))
		if !bytes.Equal(Put(nil, got), b) {
			t.Fatalf("%v is put as %x", got, Put(nil, got))
		}
	}
}

// R3: Put writes to nothing that is handed in, also not behind its end, and answers new memory.
func TestPutNewMemory(t *testing.T) {
	whole := bytes.Repeat([]byte("abcdefgh"), 20)
	kept := bytes.Clone(whole)
	links := full()
	for _, l := range []api.Lsa{like(nil), like(links[:2]), like(links), {}, like(to(3)), like(slices.Repeat(links, 2))} {
		got := Put(whole[:3], l)
		if string(got[:3]) != "abc" {
			t.Fatalf("Put = %q", got)
		}
		clear(got)
		clear(append(got, "xxxxxxxx"...))
	}
	if !bytes.Equal(whole, kept) || !slices.Equal(links, full()) {
		t.Errorf("what was handed in is %q, %v now", whole, links)
	}
}

// R3: Copy's links are new memory: neither turns with the other one, nor grows into it.
func TestCopyNewMemory(t *testing.T) {
	for n := range 17 {
		links := full()
		l := like(links[:n])
		got := Copy(l)
		_ = append(got.Links, api.Link{To: 99, Cost: 99})
		clear(got.Links)
		if !slices.Equal(links, full()) {
			t.Fatalf("of %d links: the copy shares memory with what was handed in", n)
		}
		got = Copy(l)
		clear(links)
		if !slices.Equal(got.Links, full()[:n]) {
			t.Fatalf("of %d links: what was handed in shares memory with the copy", n)
		}
	}
}

// R3: what is read is new memory, also of the same bytes.
func TestReadNewMemory(t *testing.T) {
	b := laid(like(full()))
	first, _ := Read(octet.Read(b))
	second, _ := Read(octet.Read(b))
	clear(first.Links)
	clear(b)
	if !equal(second, like(full())) {
		t.Errorf("what was read is %v now", second)
	}
}

// R3: no call writes to an Lsa that it is handed.
func TestHandedIn(t *testing.T) {
	l, o := like(full()), like(to(4, 4, 2))
	Check(l)
	Check(o)
	Newer(l, o)
	Same(l, o)
	Cost(l, 64)
	Cost(o, 4)
	Copy(o)
	Put(nil, o)
	if !equal(l, like(full())) || !equal(o, like(to(4, 4, 2))) {
		t.Errorf("%v, %v", l, o)
	}
}
