package change

import (
	"bytes"
	"encoding/binary"
	"fmt"
	"math"
	"math/rand"
	"slices"
	"testing"

	"waymark/api"
)

// edges are numbers at the edges that a change's numbers have, and far off them.
var edges = []int{
	math.MinInt, math.MinInt + 1, -1 << 62, -1 << 32, -64, -2, -1, 0, 1, 2, 3, 4, 5, 6, 39, 40, 41, 63, 64, 65, 66, 127, 128, 129, 255, 256, 257, 258, 259, 260,
	1<<30 - 1, 1 << 30, 1<<30 + 1, 1<<31 - 1, 1 << 31, 1<<31 + 1, 1<<32 - 1, 1 << 32, 1<<32 + 1, 1<<32 + 5,
	1<<62 - 1, 1 << 62, 1<<62 + 1, math.MaxInt - 1, math.MaxInt,
}

// like is node 3's Lsa that may be, with links to these nodes.
func like(nodes ...int) api.Lsa {
	l := api.Lsa{Origin: 3, Seq: 7}
	for i, n := range nodes {
		l.Links = append(l.Links, api.Link{To: n, Cost: 100*n + i + 1})
	}
	return l
}

// full is node 3's Lsa with as many links as there may be.
func full() api.Lsa { return like(1, 2, 4, 5, 6, 7, 8, 9, 20, 30, 40, 50, 61, 62, 63, 64) }

// The changes of each kind.
func ofLsa(l api.Lsa) api.Change    { return api.Change{Kind: api.ChangeLsa, Lsa: l} }
func upto(n int) api.Change         { return api.Change{Kind: api.ChangeUpto, N: n} }
func boot(n int) api.Change         { return api.Change{Kind: api.ChangeBoot, N: n} }
func epoch(of, n int) api.Change    { return api.Change{Kind: api.ChangeEpoch, Of: of, N: n} }
func one(c api.Change) []api.Change { return []api.Change{c} }

// maybe are changes that may be, at the edges of each number.
func maybe() []api.Change {
	return []api.Change{
		ofLsa(api.Lsa{Origin: 1, Seq: 1}), ofLsa(api.Lsa{Origin: 64, Seq: 1 << 62}), ofLsa(like()), ofLsa(like(4)), ofLsa(like(1, 64)), ofLsa(full()),
		ofLsa(api.Lsa{Origin: 3, Seq: 7, Links: []api.Link{}}), ofLsa(api.Lsa{Origin: 64, Seq: 2, Links: []api.Link{{To: 63, Cost: 1 << 30}}}),
		upto(1), upto(2), upto(255), upto(256), upto(1<<32 - 1), upto(1 << 32), upto(0x0102030405060708), upto(1<<62 - 1), upto(1 << 62),
		boot(1), boot(2), boot(255), boot(256), boot(0x01020304), boot(1<<30 - 1), boot(1 << 30),
		epoch(1, 1), epoch(64, 1), epoch(1, 1<<30), epoch(64, 1<<30), epoch(3, 4), epoch(4, 3), epoch(33, 0x01020304),
		{Kind: api.ChangeUpto, N: 9, Lsa: api.Lsa{Links: []api.Link{}}}, {Kind: api.ChangeBoot, N: 9, Lsa: api.Lsa{Links: []api.Link{}}},
		{Kind: api.ChangeEpoch, N: 9, Of: 8, Lsa: api.Lsa{Links: []api.Link{}}},
	}
}

// never are changes that may not be: a number that is too small or too great, what their kind does not name, or no kind.
func never() []api.Change {
	l := []api.Change{
		{}, {Kind: 5}, {Kind: -1}, {N: 1}, {Of: 1}, {Lsa: like()}, {Kind: 5, N: 1}, {Kind: 5, Of: 3, N: 1}, {Kind: 5, Lsa: like()}, {Of: 3, N: 1},
		ofLsa(api.Lsa{}), ofLsa(api.Lsa{Origin: 65, Seq: 7}), ofLsa(api.Lsa{Origin: 3}), ofLsa(api.Lsa{Seq: 7}), ofLsa(like(3)), ofLsa(like(4, 4)), ofLsa(like(4, 2)),
		ofLsa(like(65)), ofLsa(api.Lsa{Origin: 3, Seq: 1<<62 + 1}), ofLsa(like(1, 2, 4, 5, 6, 7, 8, 9, 10, 11, 12, 13, 14, 15, 16, 17, 18)),
		upto(0), upto(-1), upto(1<<62 + 1), upto(math.MaxInt), upto(math.MinInt),
		boot(0), boot(-1), boot(1<<30 + 1), boot(1 << 32), boot(1<<32 + 1), boot(math.MaxInt), boot(math.MinInt),
		epoch(0, 1), epoch(65, 1), epoch(-1, 1), epoch(257, 1), epoch(3, 0), epoch(3, -1), epoch(3, 1<<30+1), epoch(3, 1<<32+1), epoch(0, 0), epoch(65, 1<<30+1),
	}
	for _, c := range maybe() {
		for _, k := range []int{0, 5, 6, 255, c.Kind - 4, c.Kind + 4, c.Kind + 256, c.Kind + 1<<32, -c.Kind} {
			c.Kind = k
			l = append(l, c)
		}
	}
	return append(l, besides()...)
}

// besides are changes that may not be as one part alone that their kind does not name is not zero.
func besides() []api.Change {
	var l []api.Change
	more := []api.Lsa{like(), full(), {Origin: 1}, {Seq: 1}, {Origin: -1}, {Seq: -1}, {Links: make([]api.Link, 1)}, {Links: like(4).Links}}
	for _, n := range []int{1, -1, 2, 64, 65, 256, 1 << 32, math.MinInt, math.MaxInt} {
		l = append(l, api.Change{Kind: api.ChangeLsa, Lsa: like(4), N: n}, api.Change{Kind: api.ChangeLsa, Lsa: like(4), Of: n})
		l = append(l, api.Change{Kind: api.ChangeUpto, N: 9, Of: n}, api.Change{Kind: api.ChangeBoot, N: 9, Of: n})
	}
	for _, x := range more {
		l = append(l, api.Change{Kind: api.ChangeUpto, N: 9, Lsa: x}, api.Change{Kind: api.ChangeBoot, N: 9, Lsa: x}, api.Change{Kind: api.ChangeEpoch, N: 9, Of: 8, Lsa: x})
	}
	return l
}

// mayLsa tells, as chapter 9 words it, whether an Lsa may be.
func mayLsa(l api.Lsa) bool {
	isNode := func(n int) bool { return n >= 1 && n <= 64 }
	if !isNode(l.Origin) || l.Seq < 1 || l.Seq > 1<<62 || len(l.Links) > 16 {
		return false
	}
	for i, k := range l.Links {
		if !isNode(k.To) || k.To == l.Origin || k.Cost < 1 || k.Cost > 1<<30 || i > 0 && l.Links[i-1].To >= k.To {
			return false
		}
	}
	return true
}

// may tells, as the chapter words it, whether a change may be.
func may(c api.Change) bool {
	noLsa := c.Lsa.Origin == 0 && c.Lsa.Seq == 0 && len(c.Lsa.Links) == 0
	switch c.Kind {
	case 1:
		return mayLsa(c.Lsa) && c.N == 0 && c.Of == 0
	case 2:
		return noLsa && c.N >= 1 && c.N <= 1<<62 && c.Of == 0
	case 3:
		return noLsa && c.N >= 1 && c.N <= 1<<30 && c.Of == 0
	case 4:
		return noLsa && c.N >= 1 && c.N <= 1<<30 && c.Of >= 1 && c.Of <= 64
	}
	return false
}

// laidOne are a change's bytes as the chapter words it, whether it may be or not.
func laidOne(c api.Change) []byte {
	b := []byte{byte(c.Kind)}
	switch c.Kind {
	case 1:
		b = binary.BigEndian.AppendUint64(append(b, byte(c.Lsa.Origin)), uint64(c.Lsa.Seq))
		b = append(b, byte(len(c.Lsa.Links)))
		for _, k := range c.Lsa.Links {
			b = binary.BigEndian.AppendUint32(append(b, byte(k.To)), uint32(k.Cost))
		}
	case 2:
		b = binary.BigEndian.AppendUint64(b, uint64(c.N))
	case 3:
		b = binary.BigEndian.AppendUint32(b, uint32(c.N))
	case 4:
		b = binary.BigEndian.AppendUint32(append(b, byte(c.Of)), uint32(c.N))
	}
	return b
}

// laid are changes' bytes as the chapter words it, whether they may be or not.
func laid(l ...api.Change) []byte {
	b := []byte{byte(len(l))}
	for _, c := range l {
		b = append(b, laidOne(c)...)
	}
	return b
}

// size is how many bytes the change has with which b begins, as the chapter words it; -1, if they are not there.
func size(b []byte) int {
	n := -1
	switch {
	case len(b) == 0:
	case b[0] == 1 && len(b) >= 11:
		n = 11 + 5*int(b[10])
	case b[0] == 2:
		n = 9
	case b[0] == 3:
		n = 5
	case b[0] == 4:
		n = 6
	}
	if n > len(b) {
		return -1
	}
	return n
}

// seenOne is the change whose bytes these are, of as many as its kind has.
func seenOne(b []byte) api.Change {
	c := api.Change{Kind: int(b[0])}
	number := func(b []byte) int {
		return int(min(binary.BigEndian.Uint64(append(make([]byte, 8-len(b)), b...)), math.MaxInt))
	}
	switch b[0] {
	case 1:
		c.Lsa = api.Lsa{Origin: int(b[1]), Seq: number(b[2:10])}
		for k := b[11:]; len(k) > 0; k = k[5:] {
			c.Lsa.Links = append(c.Lsa.Links, api.Link{To: int(k[0]), Cost: number(k[1:5])})
		}
	case 4:
		c.Of, c.N = int(b[1]), number(b[2:])
	default:
		c.N = number(b[1:])
	}
	return c
}

// seen are, as the chapter words it, the changes whose bytes are all of b, and whether there are any.
func seen(b []byte) ([]api.Change, bool) {
	if len(b) == 0 || b[0] < 1 || b[0] > 40 {
		return nil, false
	}
	var l []api.Change
	rest := b[1:]
	for range int(b[0]) {
		n := size(rest)
		if n < 0 || !may(seenOne(rest[:n])) {
			return nil, false
		}
		l = append(l, seenOne(rest[:n]))
		rest = rest[n:]
	}
	return l, len(rest) == 0
}

// equal tells whether changes are alike, by the tests' own words; an empty list and no list are.
func equal(a, b api.Change) bool {
	return a.Kind == b.Kind && a.N == b.N && a.Of == b.Of && a.Lsa.Origin == b.Lsa.Origin && a.Lsa.Seq == b.Lsa.Seq && slices.Equal(a.Lsa.Links, b.Lsa.Links)
}

// isGot fails if not these changes are got.
func isGot(t *testing.T, b []byte, want []api.Change) {
	t.Helper()
	if got, e := Get(b); e != api.OK || !slices.EqualFunc(got, want, equal) {
		t.Errorf("Get(%x) = %v, %d, want %v", b, got, e, want)
	}
}

// isNone fails if changes are got, or if something is answered beside the error.
func isNone(t *testing.T, b []byte, what string) {
	t.Helper()
	if got, e := Get(b); e != api.ErrText || got != nil {
		t.Errorf("%s: Get = %v, %d", what, got, e)
	}
}

// asWords fails if Get answers something else than the chapter's words; it tells whether there are changes.
func asWords(t *testing.T, b []byte) bool {
	t.Helper()
	want, ok := seen(b)
	if !ok {
		isNone(t, b, fmt.Sprintf("%x", b))
		return false
	}
	isGot(t, b, want)
	return true
}

// isRight fails if Check answers something else than the chapter's words, or Put something else than Check.
func isRight(t *testing.T, c api.Change) {
	t.Helper()
	want := api.ErrArg
	if may(c) {
		want = api.OK
	}
	if e := Check(c); e != want {
		t.Errorf("Check(%v) = %d, want %d", c, e, want)
	}
	b, e := Put(one(c))
	if e != want || e == api.OK && !bytes.Equal(b, laid(c)) || e != api.OK && b != nil {
		t.Errorf("Put(%v) = %x, %d, want %d", c, b, e, want)
	}
}

// Cg1: Check, of changes that may be and that may not.
func TestCheckKnown(t *testing.T) {
	for _, c := range maybe() {
		if e := Check(c); e != api.OK || !may(c) {
			t.Errorf("Check(%v) = %d", c, e)
		}
	}
	for _, c := range never() {
		if e := Check(c); e != api.ErrArg || may(c) {
			t.Errorf("Check(%v) = %d", c, e)
		}
	}
}

// Cg1: Check, of all edges of each number, of each kind, whatever stands beside.
func TestCheckNumbers(t *testing.T) {
	for _, a := range edges {
		for _, b := range edges {
			for kind := -1; kind <= 6; kind++ {
				isRight(t, api.Change{Kind: kind, Of: a, N: b})
				isRight(t, api.Change{Kind: kind, Of: a, N: b, Lsa: like(4)})
				isRight(t, api.Change{Kind: kind, Lsa: api.Lsa{Origin: a, Seq: b}})
				isRight(t, api.Change{Kind: kind, Lsa: api.Lsa{Origin: 3, Seq: 7, Links: []api.Link{{To: a, Cost: b}}}})
			}
			isRight(t, api.Change{Kind: a, N: b})
			isRight(t, api.Change{Kind: a, N: b, Of: 3})
			isRight(t, api.Change{Kind: a, Of: b})
			isRight(t, api.Change{Kind: a, Lsa: like(4), N: b})
		}
		isRight(t, ofLsa(api.Lsa{Origin: 3, Seq: a, Links: full().Links}))
	}
}

// Cg1: Check, of all nodes and small numbers, of each kind.
func TestCheckSmall(t *testing.T) {
	for of := -2; of <= 70; of++ {
		for n := -2; n <= 70; n++ {
			for kind := range 6 {
				isRight(t, api.Change{Kind: kind, Of: of, N: n})
			}
		}
	}
}

// Cg1: Put, at bytes that are known, and the chapter's example.
func TestPutKnown(t *testing.T) {
	for _, c := range []struct {
		l    []api.Change
		want string
	}{
		{one(boot(1)), "\x01\x03\x00\x00\x00\x01"},
		{one(boot(0x01020304)), "\x01\x03\x01\x02\x03\x04"},
		{one(upto(0x0102030405060708)), "\x01\x02\x01\x02\x03\x04\x05\x06\x07\x08"},
		{one(upto(1 << 62)), "\x01\x02\x40\x00\x00\x00\x00\x00\x00\x00"},
		{one(epoch(3, 4)), "\x01\x04\x03\x00\x00\x00\x04"},
		{one(epoch(64, 1<<30)), "\x01\x04\x40\x40\x00\x00\x00"},
		{one(ofLsa(like())), "\x01\x01\x03\x00\x00\x00\x00\x00\x00\x00\x07\x00"},
		{one(ofLsa(api.Lsa{Origin: 3, Seq: 7, Links: []api.Link{{To: 4, Cost: 5}}})), "\x01\x01\x03\x00\x00\x00\x00\x00\x00\x00\x07\x01\x04\x00\x00\x00\x05"},
		{[]api.Change{boot(2), epoch(1, 258), upto(3), boot(2)}, "\x04\x03\x00\x00\x00\x02\x04\x01\x00\x00\x01\x02\x02\x00\x00\x00\x00\x00\x00\x00\x03\x03\x00\x00\x00\x02"},
	} {
		if got, e := Put(c.l); e != api.OK || string(got) != c.want {
			t.Errorf("Put(%v) = %q, %d, want %q", c.l, got, e, c.want)
		}
		isGot(t, []byte(c.want), c.l)
	}
}

// Cg1: how many bytes a change of each kind has, alone.
func TestPutSizes(t *testing.T) {
	for want, c := range map[int]api.Change{6: boot(9), 7: epoch(9, 9), 10: upto(9), 12: ofLsa(like()), 92: ofLsa(full())} {
		if b, e := Put(one(c)); e != api.OK || len(b) != want {
			t.Errorf("Put(%v) has %d bytes, %d, want %d", c, len(b), e, want)
		}
	}
}

// isRefused fails if Put does not answer ErrArg and nothing.
func isRefused(t *testing.T, l []api.Change, what string) {
	t.Helper()
	if b, e := Put(l); e != api.ErrArg || b != nil {
		t.Errorf("%s: Put = %x, %d", what, b, e)
	}
}

// Cg1: Put of none, of as many as there may be, and of more.
func TestPutMany(t *testing.T) {
	isRefused(t, nil, "no list")
	isRefused(t, []api.Change{}, "an empty list")
	for _, c := range maybe() {
		for n := 1; n <= 40; n++ {
			l := slices.Repeat(one(c), n)
			b, e := Put(l)
			if e != api.OK || !bytes.Equal(b, laid(l...)) {
				t.Fatalf("Put of %d of %v = %x, %d", n, c, b, e)
			}
			isGot(t, b, l)
		}
		for _, n := range []int{41, 42, 80, 255, 256, 257, 296, 1000} {
			isRefused(t, slices.Repeat(one(c), n), fmt.Sprint(n, " of ", c))
		}
	}
}

// Cg1: Put refuses a list some one of which may not be, wherever it stands.
func TestPutNever(t *testing.T) {
	for _, c := range never() {
		isRefused(t, one(c), fmt.Sprint(c))
		isRefused(t, []api.Change{c, boot(1)}, fmt.Sprint(c, " first"))
		isRefused(t, []api.Change{boot(1), c}, fmt.Sprint(c, " last"))
	}
	for i := range 40 {
		l := slices.Repeat(one(epoch(3, 4)), 40)
		l[i].N = 0
		isRefused(t, l, fmt.Sprint("the one at ", i))
	}
	isRefused(t, make([]api.Change, 41), "41 that may not be")
}

// Cg1: Get, of how many there are told to be other than there are.
func TestGetMany(t *testing.T) {
	for n := range 256 {
		for _, c := range maybe() {
			b := append([]byte{byte(n)}, bytes.Repeat(laidOne(c), n)...)
			if got := asWords(t, b); got != (n >= 1 && n <= 40) {
				t.Errorf("of %d of %v: %v", n, c, got)
			}
			b[0]++
			isNone(t, b, fmt.Sprint("one less than the told ", n+1))
			b[0] -= 2
			isNone(t, b, fmt.Sprint("one more than the told ", n-1))
		}
	}
}

// Cg1: bytes that end ahead of the changes' end are none's, wherever they end; nor are those with more behind.
func TestGetShortLong(t *testing.T) {
	all := maybe()
	lists := [][]api.Change{all, append(all[:3:3], all[20:]...), all[5:9]}
	for _, c := range all {
		lists = append(lists, one(c), []api.Change{c, boot(1)})
	}
	for _, l := range lists {
		b := laid(l...)
		isGot(t, b, l)
		for n := range b {
			isNone(t, b[:n], fmt.Sprintf("%d of the bytes of %v", n, l))
		}
		for _, more := range [][]byte{{0}, {1}, {3}, {3, 0, 0, 0, 1}, b, make([]byte, 500)} {
			isNone(t, slices.Concat(b, more), fmt.Sprintf("%x behind the bytes of %v", more, l))
		}
	}
	isNone(t, nil, "no bytes")
	isNone(t, []byte{0}, "no changes")
	isNone(t, append([]byte{0}, laidOne(boot(1))...), "no changes, and one")
}

// Cg1: the bytes of changes that may not be are none's, first, alone or last.
func TestGetNever(t *testing.T) {
	for _, c := range never() {
		for _, l := range [][]api.Change{one(c), {c, boot(1)}, {boot(1), c}} {
			asWords(t, laid(l...))
		}
	}
	for what, b := range map[string]string{
		"kind 0": "\x01\x00\x00\x00\x00\x01", "kind 5": "\x01\x05\x00\x00\x00\x01", "kind 255": "\x01\xff\x00\x00\x00\x01", "kind 0 alone": "\x01\x00", "kind 5 alone": "\x01\x05",
		"start 0": "\x01\x03\x00\x00\x00\x00", "start 2^30 + 1": "\x01\x03\x40\x00\x00\x01", "start 2^32 - 1": "\x01\x03\xff\xff\xff\xff",
		"number 0": "\x01\x02\x00\x00\x00\x00\x00\x00\x00\x00", "number 2^62 + 1": "\x01\x02\x40\x00\x00\x00\x00\x00\x00\x01",
		"number 2^63": "\x01\x02\x80\x00\x00\x00\x00\x00\x00\x00", "number 2^63 + 1": "\x01\x02\x80\x00\x00\x00\x00\x00\x00\x01", "number 2^64 - 1": "\x01\x02\xff\xff\xff\xff\xff\xff\xff\xff",
		"epoch 0": "\x01\x04\x03\x00\x00\x00\x00", "epoch 2^30 + 1": "\x01\x04\x03\x40\x00\x00\x01", "epoch of 0": "\x01\x04\x00\x00\x00\x00\x01",
		"epoch of 65": "\x01\x04\x41\x00\x00\x00\x01", "epoch of 255": "\x01\x04\xff\x00\x00\x00\x01",
		"Lsa of 0": "\x01\x01\x00\x00\x00\x00\x00\x00\x00\x00\x07\x00", "Lsa of 65": "\x01\x01\x41\x00\x00\x00\x00\x00\x00\x00\x07\x00",
		"Seq 0": "\x01\x01\x03\x00\x00\x00\x00\x00\x00\x00\x00\x00", "Seq 2^63 + 1": "\x01\x01\x03\x80\x00\x00\x00\x00\x00\x00\x01\x00",
		"a link to itself": "\x01\x01\x03\x00\x00\x00\x00\x00\x00\x00\x07\x01\x03\x00\x00\x00\x05", "a link without a cost": "\x01\x01\x03\x00\x00\x00\x00\x00\x00\x00\x07\x01\x04\x00\x00\x00\x00",
		"a link that is not there": "\x01\x01\x03\x00\x00\x00\x00\x00\x00\x00\x07\x01", "a start where a link should be": "\x02\x01\x03\x00\x00\x00\x00\x00\x00\x00\x07\x01\x03\x00\x00\x00\x05",
	} {
		isNone(t, []byte(b), what)
	}
}

// Cg1: Get, of all values of each byte, against the chapter's words.
func TestGetBytes(t *testing.T) {
	found := 0
	for _, l := range [][]api.Change{one(boot(1)), one(epoch(3, 4)), one(upto(7)), one(ofLsa(like())), one(ofLsa(like(4))), one(ofLsa(full())), {boot(7), epoch(64, 1<<30), upto(1 << 62), ofLsa(like(1, 2)), boot(1)}} {
		b := laid(l...)
		for i := range b {
			for x := range 256 {
				turned := bytes.Clone(b)
				turned[i] = byte(x)
				if asWords(t, turned) {
					found++
				}
			}
		}
	}
	if found < 1000 {
		t.Errorf("%d are changes'", found)
	}
}

// Cg1: Get, of any bytes, against the chapter's words.
func TestGetAny(t *testing.T) {
	random := rand.New(rand.NewSource(1))
	found := 0
	for range 20000 {
		n := 1 + random.Intn(4)
		b := []byte{byte(n)}
		for range n {
			part := laidOne(maybe()[random.Intn(len(maybe()))])
			if random.Intn(8) == 0 {
				part[random.Intn(len(part))] += byte(random.Intn(3))
			}
			if random.Intn(20) == 0 {
				part = part[:random.Intn(len(part))]
			}
			b = append(b, part...)
		}
		if asWords(t, b) {
			found++
		}
		noise := make([]byte, random.Intn(20))
		for i := range noise {
			noise[i] = byte(random.Intn(5))
		}
		asWords(t, noise)
	}
	if found < 2000 || found > 19000 {
		t.Errorf("%d are changes'", found)
	}
}

// Cg1: Same, of all pairs, against the tests' own words; no list of links and an empty one are alike.
func TestSame(t *testing.T) {
	all := append(maybe(), never()...)
	for i, a := range all {
		for k, b := range all {
			if got := Same(a, b); got != equal(a, b) {
				t.Errorf("Same of %d and %d = %v", i, k, got)
			}
		}
	}
	empty := ofLsa(api.Lsa{Origin: 3, Seq: 7, Links: []api.Link{}})
	if !Same(ofLsa(like()), empty) || !Same(empty, ofLsa(like())) || !Same(api.Change{}, api.Change{Lsa: api.Lsa{Links: []api.Link{}}}) {
		t.Error("no list and an empty one are unlike")
	}
}

// Cg1: changes that are unlike in one number alone are unlike, whether their kind names it or not.
func TestSameOne(t *testing.T) {
	for kind := range 6 {
		a := api.Change{Kind: kind, N: 5, Of: 6, Lsa: full()}
		for i, turn := range []func(b *api.Change){
			func(b *api.Change) { b.Kind++ }, func(b *api.Change) { b.Kind += 256 }, func(b *api.Change) { b.N++ }, func(b *api.Change) { b.N += 1 << 32 },
			func(b *api.Change) { b.Of++ }, func(b *api.Change) { b.Of += 256 }, func(b *api.Change) { b.N, b.Of = b.Of, b.N },
			func(b *api.Change) { b.Lsa.Origin++ }, func(b *api.Change) { b.Lsa.Seq++ }, func(b *api.Change) { b.Lsa.Links[15].Cost++ },
			func(b *api.Change) { b.Lsa.Links[0].To-- }, func(b *api.Change) { b.Lsa.Links = b.Lsa.Links[:15] }, func(b *api.Change) { b.Lsa.Links = nil },
		} {
			b := a
			b.Lsa = full()
			turn(&b)
			if Same(a, b) || Same(b, a) || !Same(a, a) || !Same(b, b) {
				t.Errorf("kind %d, turned by %d: %v is as %v", kind, i, b, a)
			}
		}
	}
}

// Cg2: what is put is got, any changes that may be, in any order.
func TestPutGet(t *testing.T) {
	random := rand.New(rand.NewSource(2))
	for range 3000 {
		l := make([]api.Change, 1+random.Intn(40))
		for i := range l {
			l[i] = anyChange(random)
		}
		b, e := Put(l)
		if e != api.OK || !bytes.Equal(b, laid(l...)) {
			t.Fatalf("Put(%v) = %x, %d", l, b, e)
		}
		got, e := Get(b)
		if e != api.OK || !slices.EqualFunc(got, l, equal) || !slices.EqualFunc(got, l, Same) {
			t.Fatalf("Get of what %v is put as = %v, %d", l, got, e)
		}
	}
	isGot(t, laid(maybe()...), maybe())
}

// anyChange is any change that may be.
func anyChange(random *rand.Rand) api.Change {
	n := 1 + random.Intn(1<<30)>>random.Intn(30)
	switch random.Intn(4) {
	case 0:
		l := api.Lsa{Origin: 1 + random.Intn(64), Seq: 1 + random.Intn(1<<62)>>random.Intn(62)}
		for k, many := 1, random.Intn(17); k <= 64 && len(l.Links) < many; k++ {
			if k != l.Origin && random.Intn(3) == 0 {
				l.Links = append(l.Links, api.Link{To: k, Cost: 1 + random.Intn(1<<30)>>random.Intn(30)})
			}
		}
		return ofLsa(l)
	case 1:
		return upto(1 + random.Intn(1<<62)>>random.Intn(62))
	case 2:
		return boot(n)
	}
	return epoch(1+random.Intn(64), n)
}

// Cg2: no other bytes are the same changes': what is got of any is put as these very bytes.
func TestGetPut(t *testing.T) {
	for _, l := range [][]api.Change{one(boot(1)), {epoch(3, 4), ofLsa(like(4))}, {upto(9), ofLsa(full()), boot(2)}} {
		b := laid(l...)
		for i := range b {
			for x := range 256 {
				turned := bytes.Clone(b)
				turned[i] = byte(x)
				got, e := Get(turned)
				if e != api.OK {
					continue
				}
				again, f := Put(got)
				if f != api.OK || !bytes.Equal(again, turned) || byte(x) != b[i] && slices.EqualFunc(got, l, equal) {
					t.Errorf("%x is got as %v, which is put as %x", turned, got, again)
				}
			}
		}
	}
}

// R3: Put writes to nothing that is handed in, and answers new memory.
func TestPutNewMemory(t *testing.T) {
	links := full().Links
	l := []api.Change{boot(1), ofLsa(api.Lsa{Origin: 3, Seq: 7, Links: links}), epoch(3, 4), upto(9), boot(5)}
	first, _ := Put(l[:3])
	want := bytes.Clone(first)
	second, _ := Put(l[:3])
	clear(append(second, "xxxxxxxx"...))
	clear(second)
	if !slices.Equal(links, full().Links) || !slices.EqualFunc(l, []api.Change{boot(1), ofLsa(full()), epoch(3, 4), upto(9), boot(5)}, equal) {
		t.Errorf("what was handed in is %v now", l)
	}
	clear(links)
	clear(l)
	if !bytes.Equal(first, want) {
		t.Errorf("what was put is %x now", first)
	}
}

// R3: what is got is new memory, each list apart from the others; nothing is written to the bytes.
func TestGetNewMemory(t *testing.T) {
	list := func() []api.Change { return []api.Change{ofLsa(full()), ofLsa(like(4, 5)), ofLsa(full()), epoch(3, 4)} }
	b := laid(list()...)
	kept := bytes.Clone(b)
	first, _ := Get(b)
	second, _ := Get(b)
	for i := range first {
		_ = append(first[i].Lsa.Links, api.Link{To: 99, Cost: 99})
	}
	if !slices.EqualFunc(first, list(), equal) || !bytes.Equal(b, kept) {
		t.Errorf("grown into each other: %v", first)
	}
	clear(first[0].Lsa.Links)
	if !slices.EqualFunc(first[1:], list()[1:], equal) {
		t.Errorf("with the first one's links turned: %v", first)
	}
	clear(first)
	clear(b)
	if !slices.EqualFunc(second, list(), equal) {
		t.Errorf("what was got is %v now", second)
	}
}

// R3: no call writes to a change that it is handed, also to one that may not be.
func TestHandedIn(t *testing.T) {
	list := func() []api.Change {
		return append(maybe()[:30], api.Change{Kind: 4, Of: 5, N: 6, Lsa: full()}, api.Change{Kind: 1, Of: 5, N: 6, Lsa: like(4, 4, 2)})
	}
	l := list()
	for _, c := range l {
		Check(c)
		Same(c, l[0])
		Same(l[31], c)
	}
	Put(l)
	Put(l[:30])
	if !slices.EqualFunc(l, list(), equal) {
		t.Errorf("%v", l)
	}
}
