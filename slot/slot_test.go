package slot

import (
	"bytes"
	"encoding/binary"
	"fmt"
	"hash/crc32"
	"math"
	"math/rand"
	"slices"
	"testing"

	"waymark/api"
)

// edges are numbers at the edges that generations, marks and places have, and far off them.
var edges = []int{
	math.MinInt, math.MinInt + 1, -1 << 32, -1 << 31, -16, -2, -1, 0, 1, 2, 15, 16, 17, 255, 256,
	1<<31 - 16, 1<<31 - 15, 1<<31 - 1, 1 << 31, 1<<31 + 1, 1<<32 - 1, 1 << 32, 1<<32 + 1, math.MaxInt - 1, math.MaxInt,
}

// lengths are how many bytes bases have, at the edges of their pages.
var lengths = []int{0, 1, 2, 487, 488, 489, 975, 976, 977, 1464, 1465, 3904, 3905, 7319, 7320, 7321, 7807, 7808}

// laid is a page's sector as the document words it, of any numbers, whether a page may have them or not.
func laid(p api.Page) []byte {
	s := make([]byte, 512)
	copy(s, "WAY")
	s[3] = byte(p.Kind)
	binary.BigEndian.PutUint32(s[4:], uint32(p.Gen))
	binary.BigEndian.PutUint32(s[8:], uint32(p.Mark))
	binary.BigEndian.PutUint32(s[12:], uint32(p.Index))
	s[16], s[17] = byte(p.Part), byte(p.Parts)
	binary.BigEndian.PutUint16(s[18:], uint16(len(p.B)))
	copy(s[20:508], p.B)
	binary.BigEndian.PutUint32(s[508:], crc32.ChecksumIEEE(s[:508]))
	return s
}

// read is, as the document words it, the page whose sector this is, if there is one.
func read(s []byte) (api.Page, bool) {
	if len(s) != 512 || string(s[:3]) != "WAY" {
		return api.Page{}, false
	}
	p := api.Page{
		Kind:  int(s[3]),
		Gen:   int(binary.BigEndian.Uint32(s[4:])),
		Mark:  int(binary.BigEndian.Uint32(s[8:])),
		Index: int(binary.BigEndian.Uint32(s[12:])),
		Part:  int(s[16]),
		Parts: int(s[17]),
	}
	n := int(binary.BigEndian.Uint16(s[18:]))
	if p.Kind < 1 || p.Kind > 9 || max(p.Gen, p.Mark, p.Index) > 1<<31 || p.Parts < 1 || p.Parts > 16 || p.Part >= p.Parts || n > 488 {
		return api.Page{}, false
	}
	p.B = s[20 : 20+n]
	return p, bytes.Equal(laid(p), s)
}

// needs is how many pages n bytes need, told by taking a page's room from them as long as there are more.
func needs(n int) int {
	pages := 1
	for n > 488 {
		n -= 488
		pages++
	}
	return pages
}

// parted are the pages of these bytes as the document words it, from p's place on; they need not be such as may be.
func parted(p api.Page, b []byte) []api.Page {
	l := make([]api.Page, needs(len(b)))
	for i := range l {
		l[i] = p
		l[i].Index, l[i].Part, l[i].Parts = p.Index+i, i, len(l)
		l[i].B = b[488*i : min(488*i+488, len(b))]
	}
	return l
}

// written are the sectors of these pages.
func written(l []api.Page) [][]byte {
	var sectors [][]byte
	for _, p := range l {
		sectors = append(sectors, laid(p))
	}
	return sectors
}

// of are a base's sectors as the document words it.
func of(gen, mark int, b []byte) [][]byte {
	return written(parted(api.Page{Kind: 1, Gen: gen, Mark: mark}, b))
}

// loaded is, as the document words it, what Load answers.
func loaded(sectors [][]byte) (api.Base, bool) {
	for n := 1; n <= min(16, len(sectors)); n++ {
		var b []byte
		first, ok := read(sectors[0])
		for i, s := range sectors[:n] {
			p, isPage := read(s)
			b = append(b, p.B...)
			ok = ok && isPage && p.Kind == 1 && p.Gen == first.Gen && p.Mark == first.Mark && p.Index == i && p.Part == i && p.Parts == n
			ok = ok && (i == n-1 || len(p.B) == 488)
		}
		if ok && needs(len(b)) == n {
			return api.Base{Gen: first.Gen, B: b}, true
		}
	}
	return api.Base{}, false
}

// noise are n bytes, the same in every run.
func noise(n int) []byte {
	b := make([]byte, n)
	rand.New(rand.NewSource(int64(n))).Read(b)
	return b
}

// behind are what may stand behind a base's sectors: nothing, what is none, pages of others, and whole records.
func behind() [][][]byte {
	next := laid(api.Page{Kind: 1, Gen: 3, Mark: 2, Index: 1, Part: 1, Parts: 2})
	return [][][]byte{
		nil, {}, {nil}, {{}}, {make([]byte, 512)}, {noise(512)}, {noise(511), noise(513)}, {next}, {laid(api.Page{Kind: 2, Gen: 3, Parts: 1})},
		of(3, 2, noise(500)), of(4, 2, nil), slices.Repeat([][]byte{make([]byte, 512)}, 20), slices.Repeat(of(9, 9, noise(9)), 20),
	}
}

// strange are sectors that are no page.
func strange() [][]byte {
	good := laid(api.Page{Kind: 1, Gen: 3, Mark: 2, Parts: 1, B: noise(100)})
	l := [][]byte{
		nil, {}, {0}, make([]byte, 511), make([]byte, 512), make([]byte, 513), noise(512), bytes.Repeat([]byte{255}, 512),
		good[:511], append(bytes.Clone(good), 0), good[1:], slices.Concat(good, good), good[:20], good[:508],
		laid(api.Page{Kind: 0, Gen: 3, Mark: 2, Parts: 1}), laid(api.Page{Kind: 10, Gen: 3, Mark: 2, Parts: 1}),
		laid(api.Page{Kind: 1, Gen: 1<<31 + 1, Mark: 2, Parts: 1}), laid(api.Page{Kind: 1, Gen: 3, Mark: 1<<31 + 1, Parts: 1}),
		laid(api.Page{Kind: 1, Gen: 3, Mark: 1<<32 - 1, Parts: 1}), laid(api.Page{Kind: 1, Gen: 3, Mark: 2, Index: 1<<31 + 1, Parts: 1}),
		laid(api.Page{Kind: 1, Gen: 3, Mark: 2}), laid(api.Page{Kind: 1, Gen: 3, Mark: 2, Part: 1, Parts: 1}),
		laid(api.Page{Kind: 1, Gen: 3, Mark: 2, Parts: 17}), laid(api.Page{Kind: 1, Gen: 3, Mark: 2, Parts: 1, B: noise(489)}),
	}
	for _, i := range []int{0, 3, 4, 8, 12, 16, 17, 18, 20, 119, 120, 507, 508, 511} {
		spoilt := bytes.Clone(good)
		spoilt[i] ^= 1
		l = append(l, spoilt)
	}
	return l
}

// isBase fails if a slot is not whole, or its base is another one.
func isBase(t *testing.T, sectors [][]byte, gen int, b []byte, what string) {
	t.Helper()
	got, ok := Load(sectors)
	if !ok || got.Gen != gen || !bytes.Equal(got.B, b) {
		t.Errorf("%s: Load = %d, %d bytes, %v, want %d, %d bytes", what, got.Gen, len(got.B), ok, gen, len(b))
	}
}

// isNone fails if a slot is whole, or if something is answered beside the false.
func isNone(t *testing.T, sectors [][]byte, what string) {
	t.Helper()
	if got, ok := Load(sectors); ok || got.Gen != 0 || got.B != nil {
		t.Errorf("%s: Load = %d, %d bytes, %v", what, got.Gen, len(got.B), ok)
	}
}

// sectors are a base's sectors, which must not be refused.
func sectors(t *testing.T, b api.Base, mark, most int) [][]byte {
	t.Helper()
	l, e := Sectors(b, mark, most)
	if e != api.OK {
		t.Fatalf("Sectors(%d, %d bytes, %d, %d) = %d", b.Gen, len(b.B), mark, most, e)
	}
	return l
}

// same tells whether these are the same sectors.
func same(a, b [][]byte) bool { return slices.EqualFunc(a, b, bytes.Equal) }

// Sl1: Load, at slots that are known, and the chapter's example.
func TestLoadKnown(t *testing.T) {
	isNone(t, slices.Repeat([][]byte{make([]byte, 512)}, 5), "noughts")
	head := "WAY\x01\x01\x02\x03\x04\x00\x00\x00\x09\x00\x00\x00\x00\x00\x01\x00\x03abc"
	s := append([]byte(head), make([]byte, 508-len(head))...)
	s = binary.BigEndian.AppendUint32(s, crc32.ChecksumIEEE(s))
	isBase(t, [][]byte{s}, 0x01020304, []byte("abc"), "three bytes")
	isBase(t, of(0, 0, nil), 0, nil, "no bytes, generation 0")
	isBase(t, of(1<<31, 1<<31, noise(7808)), 1<<31, noise(7808), "the greatest of all")
}

// Sl1: Load, of all lengths' edges, whatever stands behind.
func TestLoadLengths(t *testing.T) {
	for i, n := range lengths {
		for k, more := range behind() {
			what := fmt.Sprint(n, " bytes, with ", k, " behind")
			isBase(t, slices.Concat(of(3+i, 2, noise(n)), more), 3+i, noise(n), what)
		}
	}
}

// Sl1: a slot without sectors is not whole, nor is one that begins with what is no page.
func TestLoadNothing(t *testing.T) {
	isNone(t, nil, "no list")
	isNone(t, [][]byte{}, "an empty list")
	isNone(t, make([][]byte, 100), "sectors without bytes")
	for i, s := range strange() {
		isNone(t, [][]byte{s}, fmt.Sprint("strange sector ", i))
		isNone(t, slices.Concat([][]byte{s}, of(3, 2, noise(10))), fmt.Sprint("a base behind strange sector ", i))
		isNone(t, slices.Concat([][]byte{s}, of(3, 2, noise(1000))[1:]), fmt.Sprint("strange sector ", i, " as the first one"))
	}
}

// Sl1: a record of another kind is no base, whole as it is.
func TestLoadKind(t *testing.T) {
	for kind := 1; kind <= 9; kind++ {
		for _, n := range lengths {
			l := written(parted(api.Page{Kind: kind, Gen: 3, Mark: 2}, noise(n)))
			if kind == 1 {
				isBase(t, l, 3, noise(n), fmt.Sprint(n, " bytes"))
				continue
			}
			isNone(t, l, fmt.Sprint(n, " bytes of kind ", kind))
			isNone(t, slices.Concat(l, of(3, 2, noise(n))), fmt.Sprint("a base behind ", n, " bytes of kind ", kind))
		}
	}
}

// Sl1: a record that begins at another place is no base, whole as it is.
func TestLoadIndex(t *testing.T) {
	for _, index := range edges {
		for _, n := range []int{0, 488, 489, 1465, 7808} {
			if index < 1 || index+needs(n)-1 > 1<<31 {
				continue
			}
			l := written(parted(api.Page{Kind: 1, Gen: 3, Mark: 2, Index: index}, noise(n)))
			isNone(t, l, fmt.Sprint(n, " bytes from ", index, " on"))
			isNone(t, slices.Concat(l, of(3, 2, noise(n))), fmt.Sprint("a base behind ", n, " bytes from ", index, " on"))
		}
	}
}

// Sl1: a slot some of whose base's sectors are not there, or stand elsewhere, is not whole.
func TestLoadParts(t *testing.T) {
	for _, n := range []int{489, 976, 977, 1465, 7808} {
		l := of(3, 2, noise(n))
		for i := range l {
			isNone(t, l[:i], fmt.Sprint("the first ", i, " of ", len(l)))
			isNone(t, slices.Delete(slices.Clone(l), i, i+1), fmt.Sprint(i, " is not there of ", len(l)))
			isNone(t, slices.Insert(slices.Clone(l), i, make([]byte, 512)), fmt.Sprint("noughts stand ahead of ", i, " of ", len(l)))
			if i < len(l)-1 {
				isNone(t, slices.Insert(slices.Clone(l), i, l[i]), fmt.Sprint(i, " is there twice of ", len(l)))
			}
			for k := range i {
				turned := slices.Clone(l)
				turned[i], turned[k] = turned[k], turned[i]
				isNone(t, turned, fmt.Sprint(i, " and ", k, " are turned of ", len(l)))
			}
		}
	}
}

// Sl1: pages that are numbered as a base's, but have too few or too many bytes, or are too many, are none's.
func TestLoadNoRecord(t *testing.T) {
	for parts := 1; parts <= 16; parts++ {
		l := make([]api.Page, parts)
		for i := range l {
			l[i] = api.Page{Kind: 1, Gen: 3, Mark: 2, Index: i, Part: i, Parts: parts, B: noise(488)}
		}
		isBase(t, written(l), 3, bytes.Repeat(noise(488), parts), fmt.Sprint(parts, " full pages"))
		for i := range l[:parts-1] {
			l[i].B = noise(487)
			isNone(t, written(l), fmt.Sprint("page ", i, " of ", parts, " is short"))
			l[i].B = noise(488)
		}
		l[parts-1].B = nil
		if parts > 1 {
			isNone(t, written(l), fmt.Sprint("the last page of ", parts, " has no bytes"))
		}
	}
	for _, parts := range []int{17, 18, 32, 100} {
		l := make([]api.Page, parts)
		for i := range l {
			l[i] = api.Page{Kind: 1, Gen: 3, Mark: 2, Index: i, Part: i, Parts: parts, B: noise(488)}
		}
		isNone(t, written(l), fmt.Sprint(parts, " pages"))
	}
}

// Sl1: of all slots that have one page with some other number just those are whole that the document's words tell.
func TestLoadNumbers(t *testing.T) {
	for _, n := range []int{0, 488, 489, 977} {
		for i := range needs(n) {
			for _, number := range []int{0, 1, 2, 3, 4, 9, 10, 15, 16, 17, 255, 1<<31 - 1, 1 << 31, 1<<31 + 1} {
				for k := range 6 {
					l := parted(api.Page{Kind: 1, Gen: 3, Mark: 2}, noise(n))
					*[]*int{&l[i].Kind, &l[i].Gen, &l[i].Mark, &l[i].Index, &l[i].Part, &l[i].Parts}[k] = number
					asWords(t, written(l), fmt.Sprint(n, " bytes, number ", k, " of page ", i, " is ", number))
				}
			}
		}
	}
}

// asWords fails if Load answers something else than the document's words; it tells whether the slot is whole.
func asWords(t *testing.T, sectors [][]byte, what string) bool {
	t.Helper()
	want, whole := loaded(sectors)
	if whole {
		isBase(t, sectors, want.Gen, want.B, what)
	} else {
		isNone(t, sectors, what)
	}
	return whole
}

// Sl1: Load answers as the document's words tell, of any sectors.
func TestLoadAny(t *testing.T) {
	r := rand.New(rand.NewSource(7))
	found := 0
	for try := range 5000 {
		var l [][]byte
		for range r.Intn(4) {
			p := api.Page{Kind: 1 + r.Intn(10)/9, Gen: r.Intn(3), Mark: r.Intn(2), Index: r.Intn(10) / 9}
			l = append(l, written(parted(p, noise(lengths[r.Intn(10)])))...)
		}
		for range r.Intn(3) {
			if len(l) > 0 {
				l[r.Intn(len(l))] = of(r.Intn(3), r.Intn(2), noise(1000))[r.Intn(3)]
			}
		}
		if asWords(t, l, fmt.Sprint("try ", try)) {
			found++
		}
	}
	if found < 500 || found > 4500 {
		t.Errorf("%d are whole", found)
	}
}

// Sl1: Better, of slots of all generations, whole and not.
func TestBetter(t *testing.T) {
	none := [][][]byte{nil, {make([]byte, 512)}, of(9, 9, noise(500))[:1], written(parted(api.Page{Kind: 2, Gen: 9}, noise(5)))}
	gens := []int{0, 1, 2, 3, 255, 256, 1<<31 - 1, 1 << 31}
	first, second := noise(500), noise(7)
	for _, a := range gens {
		// Which mark is greater says nothing of which slot is better.
		for mark := range 3 {
			for _, b := range gens {
				want := api.Base{Gen: a, B: first}
				if b > a {
					want = api.Base{Gen: b, B: second}
				}
				isBetter(t, of(a, mark, first), of(b, 1, second), want)
			}
		}
		for _, n := range none {
			isBetter(t, of(a, 1, first), n, api.Base{Gen: a, B: first})
			isBetter(t, n, of(a, 1, second), api.Base{Gen: a, B: second})
		}
	}
	for _, a := range none {
		for _, b := range none {
			if got, ok := Better(a, b); ok || got.Gen != 0 || got.B != nil {
				t.Errorf("Better of none = %d, %d bytes, %v", got.Gen, len(got.B), ok)
			}
		}
	}
}

// isBetter fails if the base of the better one of two slots is another one.
func isBetter(t *testing.T, a, b [][]byte, want api.Base) {
	t.Helper()
	got, ok := Better(a, b)
	if !ok || got.Gen != want.Gen || !bytes.Equal(got.B, want.B) {
		t.Errorf("Better = %d, %d bytes, %v, want %d, %d bytes", got.Gen, len(got.B), ok, want.Gen, len(want.B))
	}
}

// Sl1: of two slots of one generation the first one is the better one, of the same length, too.
func TestBetterEqual(t *testing.T) {
	for _, n := range []int{0, 1, 488, 489, 7808} {
		a, b := append(noise(n), 1), append(noise(n), 2)
		if n == 7808 {
			a, b = a[1:], b[1:]
		}
		isBetter(t, of(3, 1, a), of(3, 2, b), api.Base{Gen: 3, B: a})
		isBetter(t, of(3, 2, b), of(3, 1, a), api.Base{Gen: 3, B: b})
	}
}

// Sl1: Mark, 0 where there is no page, and of pages that have it.
func TestMarkNone(t *testing.T) {
	for _, l := range [][][]byte{nil, {}, make([][]byte, 20), strange(), of(3, 0, noise(1000)), slices.Concat(strange(), of(3, 0, nil))} {
		if got := Mark(l); got != 0 {
			t.Errorf("Mark of %d sectors without one = %d", len(l), got)
		}
	}
	for i, s := range strange() {
		if got := Mark([][]byte{s}); got != 0 {
			t.Errorf("Mark of strange sector %d = %d", i, got)
		}
	}
}

// Sl1: Mark is the greatest one of all pages, of any kind, at any place, of a record that is whole or not.
func TestMark(t *testing.T) {
	for _, mark := range []int{1, 2, 3, 255, 256, 1<<31 - 1, 1 << 31} {
		for kind := 1; kind <= 9; kind++ {
			p := api.Page{Kind: kind, Gen: kind % 3, Mark: mark, Index: kind * 100, Part: kind, Parts: 16, B: noise(kind)}
			less := of(1<<31, mark-1, noise(2000))
			for i := range len(less) + 1 {
				for _, l := range [][][]byte{
					slices.Insert(slices.Clone(less), i, laid(p)),
					slices.Insert(slices.Clone(less), i, nil, make([]byte, 512), laid(p), noise(512)),
				} {
					if got := Mark(l); got != mark {
						t.Errorf("Mark, %d at place %d = %d", mark, i, got)
					}
				}
			}
			if got := Mark([][]byte{laid(p)}); got != mark {
				t.Errorf("Mark of one page of mark %d = %d", mark, got)
			}
		}
	}
}

// Sl1: Mark looks at all sectors, of a whole disk, too.
func TestMarkMany(t *testing.T) {
	l := make([][]byte, 1024)
	for i := range l {
		l[i] = laid(api.Page{Kind: 2, Mark: 5, Index: i, Parts: 1})
	}
	for _, i := range []int{0, 15, 16, 17, 31, 32, 500, 1023} {
		many := slices.Clone(l)
		many[i] = laid(api.Page{Kind: 2, Mark: 6, Parts: 1})
		if got := Mark(many); got != 6 {
			t.Errorf("Mark, 6 at place %d = %d", i, got)
		}
	}
}

// Sl2: Sectors, of all lengths' edges, generations and marks, against the document's words.
func TestSectors(t *testing.T) {
	for _, n := range lengths {
		for _, gen := range []int{0, 1, 3, 0x01020304, 1<<31 - 1, 1 << 31} {
			for _, mark := range []int{0, 1, 4, 0x05060708, 1<<31 - 1, 1 << 31} {
				for _, most := range []int{needs(n), needs(n) + 1, 16, 17, math.MaxInt} {
					if l := sectors(t, api.Base{Gen: gen, B: noise(n)}, mark, most); !same(l, of(gen, mark, noise(n))) {
						t.Errorf("Sectors(%d, %d bytes, %d, %d) are others", gen, n, mark, most)
					}
				}
			}
		}
	}
}

// Sl2: Sectors, at bytes that are known.
func TestSectorsKnown(t *testing.T) {
	l := sectors(t, api.Base{Gen: 0x01020304, B: append(make([]byte, 488), "ab"...)}, 0x05060708, 2)
	for i, head := range []string{
		"WAY\x01\x01\x02\x03\x04\x05\x06\x07\x08\x00\x00\x00\x00\x00\x02\x01\xE8",
		"WAY\x01\x01\x02\x03\x04\x05\x06\x07\x08\x00\x00\x00\x01\x01\x02\x00\x02ab",
	} {
		want := append([]byte(head), make([]byte, 508-len(head))...)
		want = binary.BigEndian.AppendUint32(want, crc32.ChecksumIEEE(want))
		if len(l) != 2 || !bytes.Equal(l[i], want) {
			t.Errorf("sector %d of %d is %x", i, len(l), l[i])
		}
	}
}

// Sl2: ErrBig, and nothing, of bytes that are no record, and of more pages than there may be; ahead of ErrArg.
func TestSectorsBig(t *testing.T) {
	for _, gen := range edges {
		for _, mark := range edges {
			isRefused(t, gen, 7809, mark, 16, api.ErrBig)
			isRefused(t, gen, 0, mark, 0, api.ErrBig)
			isRefused(t, gen, 489, mark, 1, api.ErrBig)
		}
	}
	for _, n := range append([]int{7809, 8000, 8296, 8297, 65536}, lengths...) {
		for _, most := range append([]int{3, 4, 5, 6, 7, 8, 9, 10, 11, 12, 13, 14}, edges...) {
			if n > 7808 || needs(n) > most {
				isRefused(t, 3, n, 2, most, api.ErrBig)
			} else if l, e := Sectors(api.Base{Gen: 3, B: noise(n)}, 2, most); e != api.OK || len(l) != needs(n) {
				t.Errorf("Sectors of %d bytes, at most %d: %d, %d", n, most, len(l), e)
			}
		}
	}
}

// isRefused fails if a base of n bytes has sectors, or another error is told.
func isRefused(t *testing.T, gen, n, mark, most int, want api.Errno) {
	t.Helper()
	if l, e := Sectors(api.Base{Gen: gen, B: noise(n)}, mark, most); e != want || l != nil {
		t.Errorf("Sectors(%d, %d bytes, %d, %d) = %d sectors, %d, want %d", gen, n, mark, most, len(l), e, want)
	}
}

// Sl2: ErrArg, and nothing, of a generation or a mark that no page may have.
func TestSectorsArg(t *testing.T) {
	may := func(n int) bool { return 0 <= n && n <= 1<<31 }
	for _, gen := range edges {
		for _, mark := range edges {
			for _, n := range []int{0, 488, 489, 7808} {
				if !may(gen) || !may(mark) {
					isRefused(t, gen, n, mark, needs(n), api.ErrArg)
				} else if l := sectors(t, api.Base{Gen: gen, B: noise(n)}, mark, 16); !same(l, of(gen, mark, noise(n))) {
					t.Errorf("Sectors(%d, %d bytes, %d) are others", gen, n, mark)
				}
			}
		}
	}
}

// Sl3: what Sectors tells is loaded as the base, whatever stands behind, and has its mark.
func TestSectorsLoad(t *testing.T) {
	stands := behind()
	for n := 0; n <= 7808; n++ {
		if n > 600 && n%97 > 0 && n%488 > 1 {
			continue
		}
		l := sectors(t, api.Base{Gen: n, B: noise(n)}, 1<<31-n, 16)
		if got := Mark(l); got != 1<<31-n {
			t.Errorf("%d bytes: Mark = %d", n, got)
		}
		for k, more := range stands {
			all := slices.Concat(l, more)
			isBase(t, all, n, noise(n), fmt.Sprint(n, " bytes, with ", k, " behind"))
			isBetter(t, all, nil, api.Base{Gen: n, B: noise(n)})
			isBetter(t, nil, all, api.Base{Gen: n, B: noise(n)})
		}
	}
}

// others are sectors that are no page of generation 3 and mark 2.
func others(place, parts int) [][]byte {
	l := strange()
	for _, p := range []api.Page{
		{Gen: 2, Mark: 2}, {Gen: 4, Mark: 2}, {Gen: 3, Mark: 1}, {Gen: 3, Mark: 3}, {Gen: 2, Mark: 3}, {Gen: 0, Mark: 0}, {Gen: 1 << 31, Mark: 1 << 31},
	} {
		// Those of its place, which only their generation and mark tell from the one that was there, and of another one.
		for _, i := range []int{place, place + 1, 0} {
			p.Kind, p.Index, p.Part, p.Parts, p.B = 1, i, min(i, parts-1), parts, noise(488)
			l = append(l, laid(p))
			p.B = noise(3)
			l = append(l, laid(p))
			p.Kind = 2
			l = append(l, laid(p))
		}
	}
	return l
}

// Sl3: where one of several sectors is another one, of another generation or mark or no page, the slot is not whole.
func TestOneIsAnother(t *testing.T) {
	for _, n := range []int{489, 976, 977, 1465, 7320, 7808} {
		l := sectors(t, api.Base{Gen: 3, B: noise(n)}, 2, 16)
		for i := range l {
			for k, s := range others(i, len(l)) {
				turned := slices.Clone(l)
				turned[i] = s
				isNone(t, turned, fmt.Sprint("sector ", i, " of ", len(l), " is other ", k))
				isNone(t, slices.Concat(turned, l), fmt.Sprint("a base behind one whose sector ", i, " of ", len(l), " is other ", k))
			}
		}
	}
}

// Sl3: where the first one is another one, which is a record alone, that record is the base.
func TestFirstIsAlone(t *testing.T) {
	for _, n := range []int{489, 977, 7808} {
		for _, gen := range []int{0, 2, 3, 4, 1 << 31} {
			for _, mark := range []int{0, 1, 2, 3, 1 << 31} {
				l := sectors(t, api.Base{Gen: 3, B: noise(n)}, 2, 16)
				alone := sectors(t, api.Base{Gen: gen, B: noise(20)}, mark, 1)
				isBase(t, slices.Concat(alone, l[1:]), gen, noise(20), fmt.Sprint("one of ", gen, ", ", mark, " ahead"))
				l[1] = alone[0]
				isNone(t, l, fmt.Sprint("one of ", gen, ", ", mark, " behind the first one"))
			}
		}
	}
}

// Sl3: sectors of which some are torn: the first bytes of what was written stand ahead of those of what was there.
func TestTorn(t *testing.T) {
	was, is := of(1, 1, noise(1400)), sectors(t, api.Base{Gen: 3, B: noise(1401)}, 2, 16)
	for i := range is {
		for n := range 512 {
			torn := slices.Clone(is)
			torn[i] = slices.Concat(is[i][:n], was[i][n:])
			if same(torn, is) {
				t.Fatalf("sector %d, torn at %d, is whole", i, n)
			}
			isNone(t, torn, fmt.Sprint("sector ", i, " is torn at ", n))
		}
	}
}

// R3: what is handed in is not written to, and what is answered is new memory.
func TestNewMemory(t *testing.T) {
	for _, n := range []int{1, 488, 489, 1000} {
		b := noise(n)
		l := sectors(t, api.Base{Gen: 3, B: b}, 2, 16)
		clear(b)
		if !same(l, of(3, 2, noise(n))) {
			t.Errorf("the sectors of %d bytes are the argument's memory", n)
		}
		for i := range l {
			clear(l[i])
			_ = append(l[i], 1, 2, 3)
			if !same(l[i+1:], of(3, 2, noise(n))[i+1:]) {
				t.Errorf("sector %d of %d bytes shares memory", i, n)
			}
		}

		l, other := of(3, 2, noise(n)), of(2, 2, noise(n+1))
		first, _ := Load(l)
		second, _ := Better(l, other)
		third, _ := Better(other, l)
		Mark(l)
		if !same(l, of(3, 2, noise(n))) || !same(other, of(2, 2, noise(n+1))) {
			t.Errorf("the sectors of %d bytes were written to", n)
		}
		for _, base := range []api.Base{first, second, third} {
			clear(base.B)
			_ = append(base.B, 1, 2, 3)
		}
		if !same(l, of(3, 2, noise(n))) {
			t.Errorf("the base of %d bytes is its sectors' memory", n)
		}
	}
}

// R4: what is answered hangs on the arguments alone.
func TestAgain(t *testing.T) {
	for _, n := range lengths {
		a := sectors(t, api.Base{Gen: 3, B: noise(n)}, 2, 16)
		isBase(t, a, 3, noise(n), "at first")
		isNone(t, of(9, 9, noise(1000))[1:], "between")
		b := sectors(t, api.Base{Gen: 3, B: noise(n)}, 2, 16)
		isBase(t, a, 3, noise(n), "again")
		if !same(a, b) || Mark(a) != 2 || Mark(b) != 2 {
			t.Errorf("%d bytes, told twice: other sectors", n)
		}
	}
}
