package base

import (
	"bytes"
	"encoding/binary"
	"maps"
	"math"
	"math/rand"
	"slices"
	"testing"

	"waymark/api"
)

// edges are numbers at the edges that a state's numbers have, and far off them.
var edges = []int{
	math.MinInt, math.MinInt + 1, -1 << 62, -1 << 32, -64, -2, -1, 0, 1, 2, 3, 4, 16, 17, 63, 64, 65, 66, 127, 128, 129, 255, 256, 257, 258,
	1<<30 - 1, 1 << 30, 1<<30 + 1, 1<<31 - 1, 1 << 31, 1<<31 + 1, 1<<32 - 1, 1 << 32, 1<<32 + 1, 1<<32 + 5,
	1<<62 - 1, 1 << 62, 1<<62 + 1, math.MaxInt - 1, math.MaxInt,
}

// told is a node's Lsa, with links to these nodes.
func told(origin, seq int, nodes ...int) api.Lsa {
	l := api.Lsa{Origin: origin, Seq: seq}
	for i, n := range nodes {
		l.Links = append(l.Links, api.Link{To: n, Cost: 100*n + i + 1})
	}
	return l
}

// full is a node's Lsa with as many links as there may be.
func full(origin, seq int) api.Lsa {
	l := api.Lsa{Origin: origin, Seq: seq}
	for n := 1; len(l.Links) < 16; n++ {
		if n != origin {
			l.Links = append(l.Links, api.Link{To: n, Cost: 1<<30 - n})
		}
	}
	return l
}

// The changes of each kind, and lists of them.
func ofLsa(l api.Lsa) api.Change        { return api.Change{Kind: api.ChangeLsa, Lsa: l} }
func upto(n int) api.Change             { return api.Change{Kind: api.ChangeUpto, N: n} }
func boot(n int) api.Change             { return api.Change{Kind: api.ChangeBoot, N: n} }
func epoch(of, n int) api.Change        { return api.Change{Kind: api.ChangeEpoch, Of: of, N: n} }
func list(l ...api.Change) []api.Change { return l }

// lsaOf is the change of a node's Lsa, with links to these nodes.
func lsaOf(origin, seq int, nodes ...int) api.Change { return ofLsa(told(origin, seq, nodes...)) }

// lsas and epochs are states with nothing else.
func lsas(l ...api.Lsa) api.State     { return api.State{Db: l} }
func epochs(l ...api.Epoch) api.State { return api.State{Epochs: l} }

// some are Lsas of these nodes, without links.
func some(nodes ...int) []api.Lsa {
	var db []api.Lsa
	for _, n := range nodes {
		db = append(db, told(n, 10+n))
	}
	return db
}

// met are epochs of these nodes.
func met(nodes ...int) []api.Epoch {
	var l []api.Epoch
	for _, n := range nodes {
		l = append(l, api.Epoch{Of: n, N: 20 + n})
	}
	return l
}

// upTo are the numbers from 1 up to the last one.
func upTo(last int) []int {
	var l []int
	for n := 1; n <= last; n++ {
		l = append(l, n)
	}
	return l
}

// mixed is a state in which each part has something.
func mixed() api.State {
	return api.State{Db: []api.Lsa{told(3, 7, 4, 9), told(4, 258, 3), told(9, 1), full(33, 1<<62)}, Upto: 16, Boot: 2, Epochs: []api.Epoch{{Of: 4, N: 1}, {Of: 9, N: 300}, {Of: 40, N: 1 << 30}}}
}

// most is a state with as much as there may be.
func most() api.State {
	s := api.State{Upto: 1 << 62, Boot: 1 << 30}
	for n := 1; n <= 64; n++ {
		s.Db = append(s.Db, full(n, 1<<62-n))
		s.Epochs = append(s.Epochs, api.Epoch{Of: n, N: 1<<30 - n})
	}
	return s
}

// maybe are states that may be.
func maybe() []api.State {
	return []api.State{
		{}, {Db: []api.Lsa{}, Epochs: []api.Epoch{}}, {Upto: 1}, {Upto: 1 << 62}, {Upto: 0x0102030405060708}, {Boot: 1}, {Boot: 1 << 30}, {Boot: 0x01020304}, {Upto: 5, Boot: 6}, {Upto: 6, Boot: 5},
		lsas(told(1, 1)), lsas(told(64, 1<<62)), lsas(told(3, 7, 4)), lsas(full(64, 1)), lsas(told(1, 9), told(2, 3)), lsas(told(1, 3, 2), told(64, 9, 1)), lsas(told(5, 1), told(6, 1), told(7, 1)),
		{Db: []api.Lsa{{Origin: 3, Seq: 7, Links: []api.Link{}}}}, {Db: some(upTo(64)...)},
		epochs(api.Epoch{Of: 1, N: 1}), epochs(api.Epoch{Of: 64, N: 1 << 30}), epochs(api.Epoch{Of: 1, N: 9}, api.Epoch{Of: 2, N: 3}), epochs(api.Epoch{Of: 1, N: 0x01020304}, api.Epoch{Of: 64, N: 2}),
		{Epochs: met(upTo(64)...)}, mixed(), most(),
	}
}

// never are states that may not be.
func never() []api.State {
	l := []api.State{
		{Upto: -1}, {Upto: 1<<62 + 1}, {Upto: math.MinInt}, {Upto: math.MaxInt}, {Boot: -1}, {Boot: 1<<30 + 1}, {Boot: 1 << 32}, {Boot: math.MinInt}, {Boot: math.MaxInt},
		lsas(api.Lsa{}), lsas(told(0, 1)), lsas(told(65, 1)), lsas(told(-1, 1)), lsas(told(3, 0)), lsas(told(3, -1)), lsas(told(3, 1<<62+1)), lsas(told(3, 7, 3)), lsas(told(3, 7, 4, 4)), lsas(told(3, 7, 5, 4)), lsas(told(3, 7, 65)), lsas(told(3, 7, 0)),
		lsas(told(3, 7), told(3, 7)), lsas(told(3, 7), told(3, 8)), lsas(told(3, 8), told(3, 7)), lsas(told(4, 7), told(3, 7)), lsas(told(4, 7), told(3, 8)), lsas(told(1, 1), told(2, 1), told(2, 1)), lsas(told(1, 1), told(3, 1), told(2, 1)), lsas(told(2, 1), told(1, 1), told(3, 1)),
		epochs(api.Epoch{}), epochs(api.Epoch{Of: 0, N: 1}), epochs(api.Epoch{Of: 65, N: 1}), epochs(api.Epoch{Of: -1, N: 1}), epochs(api.Epoch{Of: 3}), epochs(api.Epoch{Of: 3, N: -1}), epochs(api.Epoch{Of: 3, N: 1<<30 + 1}), epochs(api.Epoch{Of: 3, N: 1<<32 + 1}),
		{Epochs: met(3, 3)}, {Epochs: met(4, 3)}, {Epochs: met(1, 2, 2)}, {Epochs: met(1, 3, 2)}, {Epochs: met(2, 1, 3)}, {Epochs: met(64, 65)}, {Epochs: met(0, 1)},
		{Db: make([]api.Lsa, 65)}, {Db: make([]api.Lsa, 300)}, {Db: some(upTo(65)...)}, {Epochs: make([]api.Epoch, 65)}, {Epochs: make([]api.Epoch, 300)}, {Epochs: met(upTo(65)...)},
	}
	for i := range 64 {
		s := most()
		s.Db[i].Origin = s.Db[(i+1)%64].Origin
		l = append(l, s)
		s = most()
		s.Db[i].Links[15].Cost++
		s.Db[i].Links[15].To = i + 1
		l = append(l, s)
		s = most()
		s.Epochs[i].Of = s.Epochs[(i+1)%64].Of
		l = append(l, s)
		s = most()
		s.Epochs[i].N = 0
		l = append(l, s)
	}
	return l
}

// isIn tells whether a number is within two others.
func isIn(n, low, high int) bool { return low <= n && n <= high }

// mayLsa tells, as chapter 9 words it, whether an Lsa may be.
func mayLsa(l api.Lsa) bool {
	if !isIn(l.Origin, 1, 64) || !isIn(l.Seq, 1, 1<<62) || len(l.Links) > 16 {
		return false
	}
	for i, k := range l.Links {
		if !isIn(k.To, 1, 64) || k.To == l.Origin || !isIn(k.Cost, 1, 1<<30) || i > 0 && l.Links[i-1].To >= k.To {
			return false
		}
	}
	return true
}

// may tells, as the chapter words it, whether a state may be.
func may(s api.State) bool {
	if !isIn(s.Upto, 0, 1<<62) || !isIn(s.Boot, 0, 1<<30) {
		return false
	}
	for i, l := range s.Db {
		if !mayLsa(l) || slices.ContainsFunc(s.Db[:i], func(x api.Lsa) bool { return x.Origin >= l.Origin }) {
			return false
		}
	}
	for i, x := range s.Epochs {
		if !isIn(x.Of, 1, 64) || !isIn(x.N, 1, 1<<30) || slices.ContainsFunc(s.Epochs[:i], func(y api.Epoch) bool { return y.Of >= x.Of }) {
			return false
		}
	}
	return true
}

// mayChange tells, as chapter 10 words it, whether a change may be.
func mayChange(c api.Change) bool {
	noLsa := c.Lsa.Origin == 0 && c.Lsa.Seq == 0 && len(c.Lsa.Links) == 0
	switch c.Kind {
	case 1:
		return mayLsa(c.Lsa) && c.N == 0 && c.Of == 0
	case 2:
		return noLsa && isIn(c.N, 1, 1<<62) && c.Of == 0
	case 3:
		return noLsa && isIn(c.N, 1, 1<<30) && c.Of == 0
	case 4:
		return noLsa && isIn(c.N, 1, 1<<30) && isIn(c.Of, 1, 64)
	}
	return false
}

// kept is a state in the tests' own form: what stands there by its nodes.
type kept struct {
	db         map[int]api.Lsa
	epochs     map[int]int
	upto, boot int
}

// keep is a state that may be, in the tests' own form.
func keep(s api.State) kept {
	k := kept{db: map[int]api.Lsa{}, epochs: map[int]int{}, upto: s.Upto, boot: s.Boot}
	for _, l := range s.Db {
		k.db[l.Origin] = l
	}
	for _, x := range s.Epochs {
		k.epochs[x.Of] = x.N
	}
	return k
}

// turn does a change, and tells whether it was old, as the chapter words it.
func (k *kept) turn(c api.Change) bool {
	old := false
	switch c.Kind {
	case 1:
		there, found := k.db[c.Lsa.Origin]
		old = found && there.Seq >= c.Lsa.Seq
		k.db[c.Lsa.Origin] = c.Lsa
	case 2:
		old = k.upto >= c.N
		k.upto = c.N
	case 3:
		old = k.boot >= c.N
		k.boot = c.N
	case 4:
		old = k.epochs[c.Of] >= c.N
		k.epochs[c.Of] = c.N
	}
	return old
}

// state is what was kept, as a state.
func (k *kept) state() api.State {
	s := api.State{Upto: k.upto, Boot: k.boot}
	for _, n := range slices.Sorted(maps.Keys(k.db)) {
		s.Db = append(s.Db, k.db[n])
	}
	for _, n := range slices.Sorted(maps.Keys(k.epochs)) {
		s.Epochs = append(s.Epochs, api.Epoch{Of: n, N: k.epochs[n]})
	}
	return s
}

// turned is what Apply answers, as the chapter words it.
func turned(s api.State, l []api.Change) (api.State, api.Errno) {
	if !may(s) || slices.ContainsFunc(l, func(c api.Change) bool { return !mayChange(c) }) {
		return api.State{}, api.ErrArg
	}
	k := keep(s)
	for _, c := range l {
		if k.turn(c) {
			return api.State{}, api.ErrOld
		}
	}
	return k.state(), api.OK
}

// laid are a state's bytes as the chapter words it, whether it may be or not.
func laid(s api.State) []byte {
	b := binary.BigEndian.AppendUint64(nil, uint64(s.Upto))
	b = binary.BigEndian.AppendUint32(b, uint32(s.Boot))
	b = append(b, byte(len(s.Db)))
	for _, l := range s.Db {
		b = binary.BigEndian.AppendUint64(append(b, byte(l.Origin)), uint64(l.Seq))
		b = append(b, byte(len(l.Links)))
		for _, k := range l.Links {
			b = binary.BigEndian.AppendUint32(append(b, byte(k.To)), uint32(k.Cost))
		}
	}
	b = append(b, byte(len(s.Epochs)))
	for _, x := range s.Epochs {
		b = binary.BigEndian.AppendUint32(append(b, byte(x.Of)), uint32(x.N))
	}
	return b
}

// bits takes numbers off bytes; it is short once there were too few.
type bits struct {
	b     []byte
	short bool
}

// next is the next number of that many bytes; one that is too great for an int is the greatest int.
func (x *bits) next(width int) int {
	if x.short = x.short || len(x.b) < width; x.short {
		return 0
	}
	n := binary.BigEndian.Uint64(append(make([]byte, 8-width), x.b[:width]...))
	x.b = x.b[width:]
	return int(min(n, math.MaxInt))
}

// seen is, as the chapter words it, the state whose bytes are all of b, and whether there is one.
func seen(b []byte) (api.State, bool) {
	x := &bits{b: b}
	s := api.State{Upto: x.next(8), Boot: x.next(4)}
	for many := x.next(1); many > 0; many-- {
		l := api.Lsa{Origin: x.next(1), Seq: x.next(8)}
		for links := x.next(1); links > 0; links-- {
			l.Links = append(l.Links, api.Link{To: x.next(1), Cost: x.next(4)})
		}
		s.Db = append(s.Db, l)
	}
	for many := x.next(1); many > 0; many-- {
		s.Epochs = append(s.Epochs, api.Epoch{Of: x.next(1), N: x.next(4)})
	}
	return s, !x.short && len(x.b) == 0 && may(s)
}

// equalLsa tells whether Lsas are alike, by the tests' own words.
func equalLsa(a, b api.Lsa) bool {
	return a.Origin == b.Origin && a.Seq == b.Seq && slices.Equal(a.Links, b.Links)
}

// equal tells whether states are alike, by the tests' own words; an empty list and no list are.
func equal(a, b api.State) bool {
	return a.Upto == b.Upto && a.Boot == b.Boot && slices.EqualFunc(a.Db, b.Db, equalLsa) && slices.Equal(a.Epochs, b.Epochs)
}

// isZero tells whether a state is the zero one.
func isZero(s api.State) bool { return s.Db == nil && s.Upto == 0 && s.Boot == 0 && s.Epochs == nil }

// isRight fails if Check answers something else than the chapter's words, or Put or Apply something else than Check.
func isRight(t *testing.T, s api.State) {
	t.Helper()
	want := api.ErrArg
	if may(s) {
		want = api.OK
	}
	if e := Check(s); e != want {
		t.Errorf("Check(%v) = %d, want %d", s, e, want)
	}
	b, e := Put(s)
	if e != want || e == api.OK && !bytes.Equal(b, laid(s)) || e != api.OK && b != nil {
		t.Errorf("Put(%v) = %x, %d, want %d", s, b, e, want)
	}
	x, e := Apply(s, nil)
	if e != want || e == api.OK && !equal(x, s) || e != api.OK && !isZero(x) {
		t.Errorf("Apply(%v) of nothing = %v, %d, want %d", s, x, e, want)
	}
}

// isDone fails if Apply answers something else than this.
func isDone(t *testing.T, s api.State, l []api.Change, want api.State, err api.Errno) {
	t.Helper()
	if got, e := Apply(s, l); e != err || !equal(got, want) || e != api.OK && !isZero(got) {
		t.Errorf("Apply(%v, %v) = %v, %d, want %v, %d", s, l, got, e, want, err)
	}
}

// asTurned fails if Apply answers something else than the chapter's words; it tells what these say.
func asTurned(t *testing.T, s api.State, l []api.Change) (api.State, api.Errno) {
	t.Helper()
	want, err := turned(s, l)
	isDone(t, s, l, want, err)
	return want, err
}

// isGot fails if not this state is got.
func isGot(t *testing.T, b []byte, want api.State) {
	t.Helper()
	if got, e := Get(b); e != api.OK || !equal(got, want) {
		t.Errorf("Get(%x) = %v, %d, want %v", b, got, e, want)
	}
}

// isNone fails if a state is got, or if something is answered beside the error.
func isNone(t *testing.T, b []byte, what ...any) {
	t.Helper()
	if got, e := Get(b); e != api.ErrText || !isZero(got) {
		t.Errorf("%v: Get(%x) = %v, %d", what, b, got, e)
	}
}

// asWords fails if Get answers something else than the chapter's words; it tells whether there is a state.
func asWords(t *testing.T, b []byte) bool {
	t.Helper()
	want, ok := seen(b)
	if !ok {
		isNone(t, b)
		return false
	}
	isGot(t, b, want)
	return true
}

// Ba1: Check, of states that may be and that may not.
func TestCheckKnown(t *testing.T) {
	for _, s := range maybe() {
		if e := Check(s); e != api.OK || !may(s) {
			t.Errorf("Check(%v) = %d", s, e)
		}
		isRight(t, s)
	}
	for _, s := range never() {
		if e := Check(s); e != api.ErrArg || may(s) {
			t.Errorf("Check(%v) = %d", s, e)
		}
		isRight(t, s)
	}
}

// Ba1: Check, of all edges of each number.
func TestCheckNumbers(t *testing.T) {
	for _, a := range edges {
		for _, b := range edges {
			isRight(t, api.State{Upto: a, Boot: b})
			isRight(t, api.State{Db: []api.Lsa{{Origin: a, Seq: b}}})
			isRight(t, api.State{Db: []api.Lsa{told(2, 5), {Origin: a, Seq: b}}})
			isRight(t, api.State{Db: []api.Lsa{{Origin: a, Seq: b}, told(63, 5)}})
			isRight(t, api.State{Db: []api.Lsa{{Origin: 3, Seq: 7, Links: []api.Link{{To: a, Cost: b}}}}})
			isRight(t, api.State{Epochs: []api.Epoch{{Of: a, N: b}}})
			isRight(t, api.State{Epochs: []api.Epoch{{Of: 2, N: 5}, {Of: a, N: b}}})
			isRight(t, api.State{Epochs: []api.Epoch{{Of: a, N: b}, {Of: 63, N: 5}}})
		}
		s := mixed()
		s.Upto = a
		isRight(t, s)
		s = mixed()
		s.Boot = a
		isRight(t, s)
	}
}

// Ba1: Check, of all nodes behind each other, in both lists.
func TestCheckOrder(t *testing.T) {
	for a := -1; a <= 66; a++ {
		for b := -1; b <= 66; b++ {
			isRight(t, api.State{Db: some(a, b)})
			isRight(t, api.State{Epochs: met(a, b)})
			isRight(t, api.State{Db: some(a, b), Epochs: met(b, a)})
			isRight(t, api.State{Db: some(1, a, b)})
			isRight(t, api.State{Epochs: met(a, b, 64)})
			// Lsas and epochs need not be of the same nodes.
			if a >= 1 && a <= 64 && b >= 1 && b <= 64 && Check(api.State{Db: some(a), Epochs: met(b)}) != api.OK {
				t.Errorf("an Lsa of %d and an epoch of %d", a, b)
			}
		}
	}
}

// Ba1: Apply, at changes that are known.
func TestApplyKnown(t *testing.T) {
	s := mixed()
	one := func(turn func(*api.State)) api.State {
		x := mixed()
		turn(&x)
		return x
	}
	for _, c := range []struct {
		l    []api.Change
		want api.State
	}{
		{nil, s}, {list(), s},
		{list(upto(17)), one(func(x *api.State) { x.Upto = 17 })},
		{list(upto(1 << 62)), one(func(x *api.State) { x.Upto = 1 << 62 })},
		{list(boot(3)), one(func(x *api.State) { x.Boot = 3 })},
		{list(boot(1 << 30)), one(func(x *api.State) { x.Boot = 1 << 30 })},
		{list(epoch(4, 2)), one(func(x *api.State) { x.Epochs[0].N = 2 })},
		{list(epoch(9, 1<<30)), one(func(x *api.State) { x.Epochs[1].N = 1 << 30 })},
		{list(epoch(1, 1)), one(func(x *api.State) { x.Epochs = slices.Insert(x.Epochs, 0, api.Epoch{Of: 1, N: 1}) })},
		{list(epoch(5, 9)), one(func(x *api.State) { x.Epochs = slices.Insert(x.Epochs, 1, api.Epoch{Of: 5, N: 9}) })},
		{list(epoch(64, 1)), one(func(x *api.State) { x.Epochs = append(x.Epochs, api.Epoch{Of: 64, N: 1}) })},
		{list(lsaOf(3, 8)), one(func(x *api.State) { x.Db[0] = told(3, 8) })},
		{list(lsaOf(3, 8, 4, 5, 6)), one(func(x *api.State) { x.Db[0] = told(3, 8, 4, 5, 6) })},
		{list(ofLsa(full(9, 1<<62))), one(func(x *api.State) { x.Db[2] = full(9, 1<<62) })},
		{list(lsaOf(1, 1, 3)), one(func(x *api.State) { x.Db = slices.Insert(x.Db, 0, told(1, 1, 3)) })},
		{list(lsaOf(5, 1)), one(func(x *api.State) { x.Db = slices.Insert(x.Db, 2, told(5, 1)) })},
		{list(ofLsa(full(64, 1))), one(func(x *api.State) { x.Db = append(x.Db, full(64, 1)) })},
		{list(upto(17), boot(3), epoch(4, 2), lsaOf(4, 259)), one(func(x *api.State) { x.Upto, x.Boot, x.Epochs[0].N, x.Db[1] = 17, 3, 2, told(4, 259) })},
		{list(upto(17), upto(18), upto(30)), one(func(x *api.State) { x.Upto = 30 })},
		{list(lsaOf(3, 8, 4), lsaOf(3, 9)), one(func(x *api.State) { x.Db[0] = told(3, 9) })},
	} {
		isDone(t, s, c.l, c.want, api.OK)
	}
	all := list(epoch(9, 2), lsaOf(9, 1), upto(8), lsaOf(2, 5, 9), boot(1), epoch(2, 1))
	isDone(t, api.State{}, all, api.State{Db: []api.Lsa{told(2, 5, 9), told(9, 1)}, Upto: 8, Boot: 1, Epochs: []api.Epoch{{Of: 2, N: 1}, {Of: 9, N: 2}}}, api.OK)
}

// Ba1: Apply, of what is old, or just not, beside all that stands there.
func TestApplyOld(t *testing.T) {
	s := mixed()
	for _, c := range []api.Change{
		upto(16), upto(15), upto(1), boot(2), boot(1), epoch(4, 1), epoch(9, 300), epoch(9, 299), epoch(9, 1), epoch(40, 1<<30), epoch(40, 1<<30-1),
		lsaOf(3, 7, 4, 9), lsaOf(3, 7), lsaOf(3, 6), lsaOf(3, 6, 4, 9), lsaOf(3, 1), lsaOf(4, 258), lsaOf(4, 2), lsaOf(9, 1), lsaOf(9, 1, 3), ofLsa(full(33, 1<<62)), lsaOf(33, 1<<62), lsaOf(33, 1<<62-1),
	} {
		isDone(t, s, list(c), api.State{}, api.ErrOld)
		isDone(t, s, list(upto(1<<40), c, boot(1<<29)), api.State{}, api.ErrOld)
		isDone(t, s, list(c, lsaOf(64, 1)), api.State{}, api.ErrOld)
		asTurned(t, api.State{}, list(c))
	}
	for _, n := range edges {
		for _, d := range edges {
			for _, c := range []api.Change{upto(n), boot(n), epoch(5, n), lsaOf(5, n)} {
				asTurned(t, api.State{Db: []api.Lsa{told(5, d)}, Upto: d, Boot: 2, Epochs: []api.Epoch{{Of: 5, N: 3}}}, list(c))
				asTurned(t, api.State{Db: []api.Lsa{told(5, 3)}, Upto: 2, Boot: d, Epochs: []api.Epoch{{Of: 5, N: 2}}}, list(c))
				asTurned(t, api.State{Db: []api.Lsa{told(4, 1<<62), told(6, 1)}, Upto: 2, Boot: 1, Epochs: []api.Epoch{{Of: 4, N: 1}, {Of: 5, N: d}, {Of: 6, N: 1}}}, list(c))
			}
		}
	}
}

// Ba1: a change that those ahead made old is old.
func TestApplyAhead(t *testing.T) {
	for _, l := range [][]api.Change{
		list(upto(20), upto(20)), list(upto(20), upto(19)), list(boot(5), boot(5)), list(boot(5), boot(4)), list(epoch(1, 2), epoch(1, 2)), list(epoch(1, 2), epoch(1, 1)),
		list(lsaOf(1, 2), lsaOf(1, 2)), list(lsaOf(1, 2), lsaOf(1, 1)), list(lsaOf(1, 2, 3), lsaOf(1, 2)), list(epoch(4, 5), upto(20), lsaOf(9, 2), epoch(4, 5)), list(lsaOf(9, 2), boot(3), lsaOf(9, 2)),
	} {
		isDone(t, mixed(), l, api.State{}, api.ErrOld)
		isDone(t, api.State{}, l, api.State{}, api.ErrOld)
		if _, e := Apply(mixed(), l[:len(l)-1]); e != api.OK {
			t.Errorf("%v without the last one: %d", l, e)
		}
	}
}

// Ba1: ErrArg, of a state or a change that may not be, goes ahead of ErrOld, wherever it stands.
func TestApplyNever(t *testing.T) {
	wrong := list(api.Change{}, api.Change{Kind: 5, N: 1}, upto(0), upto(1<<62+1), boot(0), boot(1<<30+1), epoch(0, 1), epoch(65, 1), epoch(3, 0), epoch(3, 1<<30+1), lsaOf(0, 1), lsaOf(65, 1), lsaOf(3, 0), lsaOf(3, 99, 3),
		lsaOf(3, 1<<62+1), ofLsa(api.Lsa{}), api.Change{Kind: api.ChangeUpto, N: 99, Of: 1}, api.Change{Kind: api.ChangeBoot, N: 99, Lsa: told(3, 99)}, api.Change{Kind: api.ChangeLsa, Lsa: told(3, 99), N: 1}, upto(-1), boot(-1), epoch(3, -1))
	for _, c := range wrong {
		for _, s := range []api.State{{}, mixed()} {
			for _, l := range [][]api.Change{list(c), list(upto(20), c), list(c, upto(20)), list(upto(20), upto(20), c), list(c, upto(20), upto(20)), list(lsaOf(3, 9), c, lsaOf(3, 9)), list(c, c)} {
				isDone(t, s, l, api.State{}, api.ErrArg)
			}
		}
		isDone(t, mixed(), list(upto(1), c), api.State{}, api.ErrArg)
	}
	for _, s := range never() {
		for _, l := range [][]api.Change{nil, list(upto(1 << 61)), list(upto(3), upto(3)), list(lsaOf(3, 5)), list(wrong[0])} {
			isDone(t, s, l, api.State{}, api.ErrArg)
		}
	}
}

// Ba1: an Lsa, or an epoch, of each node stands in its place, whichever stand there.
func TestApplyPlaces(t *testing.T) {
	for n := 1; n <= 64; n++ {
		others := slices.DeleteFunc(upTo(64), func(k int) bool { return k == n })
		for _, there := range [][]int{nil, {1}, {32}, {64}, {1, 64}, {31, 32, 33}, upTo(64), others} {
			s := api.State{Db: some(there...), Epochs: met(there...)}
			asTurned(t, s, list(lsaOf(n, 10+n)))
			asTurned(t, s, list(epoch(n, 20+n)))
			_, e := asTurned(t, s, list(lsaOf(n, 11+n), epoch(n, 21+n)))
			if e != api.OK {
				t.Errorf("of %d, where %v stand: %d", n, there, e)
			}
		}
	}
}

// Ba1: any number of changes is done, also more than layer 10's bytes can have.
func TestApplyMany(t *testing.T) {
	var l []api.Change
	for n := 64; n >= 1; n-- {
		l = append(l, lsaOf(n, 10+n), epoch(n, 20+n))
	}
	isDone(t, api.State{}, l, api.State{Db: some(upTo(64)...), Epochs: met(upTo(64)...)}, api.OK)
	for n := 1; n <= 1000; n++ {
		l = append(l, upto(n), boot(2*n), lsaOf(7, 17+n, 8), epoch(7, 27+n))
	}
	want := api.State{Db: some(upTo(64)...), Upto: 1000, Boot: 2000, Epochs: met(upTo(64)...)}
	want.Db[6], want.Epochs[6].N = told(7, 1017, 8), 1027
	isDone(t, api.State{}, l, want, api.OK)
	isDone(t, api.State{}, append(l, boot(2000)), api.State{}, api.ErrOld)
	isDone(t, api.State{}, append(l, boot(1000), boot(0)), api.State{}, api.ErrArg)
}

// anyChange is a change, of few nodes and small numbers, that rise with how; now and then one that may not be.
func anyChange(random *rand.Rand, how int) api.Change {
	n := 1 + how + random.Intn(6)
	node := 1 + random.Intn(6)
	if random.Intn(4) == 0 {
		node += 58
	}
	if random.Intn(200) == 0 {
		n = 0
	}
	switch random.Intn(4) {
	case 0:
		l := told(node, n)
		for to := 10; to < 20 && random.Intn(3) > 0; to++ {
			l.Links = append(l.Links, api.Link{To: to, Cost: 1 + random.Intn(9)})
		}
		return ofLsa(l)
	case 1:
		return upto(n)
	case 2:
		return boot(n)
	}
	return epoch(node, n)
}

// anyChanges are such changes, up to 12.
func anyChanges(random *rand.Rand) []api.Change {
	l := make([]api.Change, random.Intn(13))
	for i := range l {
		l[i] = anyChange(random, 4*i)
	}
	return l
}

// Ba1: Apply, of any changes, one list behind the other, against the chapter's words.
func TestApplyAny(t *testing.T) {
	random := rand.New(rand.NewSource(1))
	answers := map[api.Errno]int{}
	for range 4000 {
		s := api.State{}
		for round := range 5 {
			l := anyChanges(random)
			for i := range l {
				if l[i].N > 0 {
					l[i].N += 10 * round
				}
				if l[i].Lsa.Seq > 0 {
					l[i].Lsa.Seq += 10 * round
				}
			}
			x, e := asTurned(t, s, l)
			answers[e]++
			if e == api.OK {
				s = x
			}
		}
	}
	for _, e := range []api.Errno{api.OK, api.ErrArg, api.ErrOld} {
		if answers[e] < 500 {
			t.Errorf("%d was answered %d times", e, answers[e])
		}
	}
}

// isLess tells whether something in a state is less, or older, than it was.
func isLess(s, was api.State) bool {
	now := keep(s)
	for _, l := range was.Db {
		x := now.db[l.Origin]
		if x.Seq < l.Seq || x.Seq == l.Seq && !equalLsa(x, l) {
			return true
		}
	}
	for _, x := range was.Epochs {
		if now.epochs[x.Of] < x.N {
			return true
		}
	}
	return s.Upto < was.Upto || s.Boot < was.Boot
}

// Ba3: what Apply tells may be; nothing in it is less, or older, than it was.
func TestApplyRises(t *testing.T) {
	random := rand.New(rand.NewSource(2))
	done := 0
	for range 3000 {
		s := maybe()[random.Intn(len(maybe()))]
		for range 6 {
			x, e := Apply(s, list(anyChange(random, random.Intn(40))))
			if e != api.OK {
				continue
			}
			done++
			if !may(x) || Check(x) != api.OK || isLess(x, s) {
				t.Fatalf("%v was %v", x, s)
			}
			s = x
		}
	}
	if done < 3000 {
		t.Errorf("%d changes were done", done)
	}
}

// Ba3: changes done in two parts are as done in one.
func TestApplyParts(t *testing.T) {
	random := rand.New(rand.NewSource(3))
	done := 0
	for range 4000 {
		s := maybe()[random.Intn(len(maybe()))]
		l := anyChanges(random)
		whole, e := Apply(s, l)
		for i := range len(l) + 1 {
			first, f := Apply(s, l[:i])
			second, g := Apply(first, l[i:])
			switch {
			case e == api.OK && (f != api.OK || g != api.OK || !equal(second, whole)):
				t.Fatalf("%v of %v, parted at %d, is %v, %d, %d, want %v", l, s, i, second, f, g, whole)
			case e != api.OK && f == api.OK && g != e:
				t.Fatalf("%v of %v, parted at %d: %d, want %d", l, s, i, g, e)
			}
		}
		if e == api.OK && len(l) > 1 {
			done++
		}
	}
	if done < 200 {
		t.Errorf("%d lists were done", done)
	}
}

// Ba2: Put and Get, at bytes that are known, and the chapter's example.
func TestPutKnown(t *testing.T) {
	zeros := func(n int) string { return string(make([]byte, n)) }
	for _, c := range []struct {
		s    api.State
		want string
	}{
		{api.State{}, zeros(14)},
		{api.State{Upto: 0x0102030405060708, Boot: 0x090a0b0c}, "\x01\x02\x03\x04\x05\x06\x07\x08\x09\x0a\x0b\x0c\x00\x00"},
		{api.State{Upto: 1 << 62, Boot: 1 << 30}, "\x40\x00\x00\x00\x00\x00\x00\x00\x40\x00\x00\x00\x00\x00"},
		{lsas(told(3, 258)), zeros(12) + "\x01\x03\x00\x00\x00\x00\x00\x00\x01\x02\x00\x00"},
		{lsas(api.Lsa{Origin: 3, Seq: 7, Links: []api.Link{{To: 4, Cost: 5}}}), zeros(12) + "\x01\x03\x00\x00\x00\x00\x00\x00\x00\x07\x01\x04\x00\x00\x00\x05\x00"},
		{epochs(api.Epoch{Of: 3, N: 0x01020304}), zeros(13) + "\x01\x03\x01\x02\x03\x04"},
		{api.State{Db: []api.Lsa{told(1, 1), told(2, 1)}, Upto: 8, Boot: 1, Epochs: []api.Epoch{{Of: 2, N: 3}, {Of: 64, N: 1 << 30}}},
			"\x00\x00\x00\x00\x00\x00\x00\x08\x00\x00\x00\x01\x02\x01\x00\x00\x00\x00\x00\x00\x00\x01\x00\x02\x00\x00\x00\x00\x00\x00\x00\x01\x00\x02\x02\x00\x00\x00\x03\x40\x40\x00\x00\x00"},
	} {
		if got, e := Put(c.s); e != api.OK || string(got) != c.want {
			t.Errorf("Put(%v) = %q, %d, want %q", c.s, got, e, c.want)
		}
		isGot(t, []byte(c.want), c.s)
	}
}

// Ba2: how many bytes there are; a state with as much as there may be is one record at most.
func TestPutSizes(t *testing.T) {
	for want, s := range map[int]api.State{14: {Upto: 9, Boot: 9}, 24: lsas(told(3, 7)), 29: lsas(told(3, 7, 4)), 104: lsas(full(3, 7)), 19: {Epochs: met(1)}, 14 + 640: {Db: some(upTo(64)...)}, 14 + 320: {Epochs: met(upTo(64)...)}, 14 + 64*90 + 64*5: most()} {
		if b, e := Put(s); e != api.OK || len(b) != want || want > api.MaxRecord {
			t.Errorf("Put(%v) has %d bytes, %d, want %d", s, len(b), e, want)
		}
	}
}

// Ba2: Put refuses a state that may not be; its bytes are none's.
func TestPutNever(t *testing.T) {
	for _, s := range never() {
		if b, e := Put(s); e != api.ErrArg || b != nil {
			t.Errorf("Put(%v) = %x, %d", s, b, e)
		}
		asWords(t, laid(s))
	}
}

// Ba2: bytes that end ahead of the state's end are none's, wherever they end; nor are those with more behind.
func TestGetShortLong(t *testing.T) {
	for _, s := range maybe() {
		b := laid(s)
		isGot(t, b, s)
		for n := range b {
			isNone(t, b[:n], "cut at", n)
		}
		for _, more := range [][]byte{{0}, {1}, {64, 0, 0, 0, 1}, b, make([]byte, 14), make([]byte, 500)} {
			isNone(t, slices.Concat(b, more), "with more behind", len(b))
		}
	}
	isNone(t, nil, "no bytes")
	isNone(t, []byte{}, "an empty list of bytes")
	isNone(t, make([]byte, 13), "13 noughts")
	isNone(t, make([]byte, 15), "15 noughts")
}

// Ba2: Get, of how many Lsas, or epochs, there are told to be other than there are.
func TestGetMany(t *testing.T) {
	for n := range 70 {
		nodes := upTo(n)
		for _, s := range []api.State{{Db: some(nodes...)}, {Epochs: met(nodes...)}, {Db: some(nodes...), Epochs: met(nodes...)}} {
			at := 12
			if len(s.Db) == 0 {
				at = 13
			}
			for x := range 256 {
				b := laid(s)
				b[at] = byte(x)
				if got := asWords(t, b); got != (x == n && n <= 64) {
					t.Errorf("%d nodes, told to be %d: %v", n, x, got)
				}
			}
		}
	}
	isNone(t, append(make([]byte, 12), bytes.Repeat([]byte{255}, 90000)...), "255 of all that there is")
}

// Ba2: the bytes of states that may not be are none's.
func TestGetNever(t *testing.T) {
	zeros := func(n int) string { return string(make([]byte, n)) }
	for what, b := range map[string]string{
		"Upto 2^62 + 1": "\x40" + zeros(6) + "\x01" + zeros(6), "Upto 2^63": "\x80" + zeros(13), "Upto 2^63 + 1": "\x80" + zeros(6) + "\x01" + zeros(6), "Upto 2^64 - 1": "\xff\xff\xff\xff\xff\xff\xff\xff" + zeros(6),
		"Boot 2^30 + 1": zeros(8) + "\x40\x00\x00\x01" + zeros(2), "Boot 2^31": zeros(8) + "\x80\x00\x00\x00" + zeros(2), "Boot 2^32 - 1": zeros(8) + "\xff\xff\xff\xff" + zeros(2),
		"an Lsa of 0": zeros(12) + "\x01" + zeros(8) + "\x01\x00\x00", "an Lsa of 65": zeros(12) + "\x01\x41" + zeros(7) + "\x01\x00\x00", "Seq 0": zeros(12) + "\x01\x03" + zeros(8) + "\x00\x00",
		"Seq 2^63 + 1": zeros(12) + "\x01\x03\x80" + zeros(6) + "\x01\x00\x00", "a link to itself": zeros(12) + "\x01\x03" + zeros(7) + "\x01\x01\x03\x00\x00\x00\x05\x00",
		"Lsas that do not rise": zeros(12) + "\x02\x03" + zeros(7) + "\x01\x00\x03" + zeros(7) + "\x02\x00\x00", "Lsas that fall": zeros(12) + "\x02\x03" + zeros(7) + "\x01\x00\x02" + zeros(7) + "\x01\x00\x00",
		"an epoch of 0": zeros(13) + "\x01\x00\x00\x00\x00\x01", "an epoch of 65": zeros(13) + "\x01\x41\x00\x00\x00\x01", "epoch 0": zeros(13) + "\x01\x03\x00\x00\x00\x00", "epoch 2^30 + 1": zeros(13) + "\x01\x03\x40\x00\x00\x01",
		"epochs that do not rise": zeros(13) + "\x02\x03\x00\x00\x00\x01\x03\x00\x00\x00\x02", "epochs that fall": zeros(13) + "\x02\x03\x00\x00\x00\x01\x02\x00\x00\x00\x01",
	} {
		isNone(t, []byte(b), what)
	}
}

// Ba2, Ba3: Get, of all values of each byte, against the chapter's words; what is got is put as these very bytes.
func TestGetBytes(t *testing.T) {
	found := 0
	for _, s := range []api.State{{}, {Upto: 1 << 62, Boot: 1 << 30}, lsas(told(3, 7, 4)), {Db: some(2, 4), Epochs: met(3, 5)}, mixed()} {
		b := laid(s)
		for i := range b {
			for x := range 256 {
				other := bytes.Clone(b)
				other[i] = byte(x)
				if !asWords(t, other) {
					continue
				}
				found++
				got, _ := Get(other)
				if again, e := Put(got); e != api.OK || !bytes.Equal(again, other) || byte(x) != b[i] && Same(got, s) {
					t.Errorf("%x is got as %v, which is put as %x, %d", other, got, again, e)
				}
			}
		}
	}
	if found < 1000 {
		t.Errorf("%d are states'", found)
	}
}

// Ba2: Get, of any bytes, against the chapter's words.
func TestGetAny(t *testing.T) {
	random := rand.New(rand.NewSource(4))
	found := 0
	for range 20000 {
		b := laid(anyState(random, 4))
		for random.Intn(2) == 0 {
			b[random.Intn(len(b))] += byte(random.Intn(3))
		}
		if random.Intn(10) == 0 {
			b = b[:random.Intn(len(b))]
		}
		if asWords(t, b) {
			found++
		}
		noise := make([]byte, random.Intn(60))
		for i := range noise {
			noise[i] = byte(random.Intn(3)) * byte(random.Intn(2))
		}
		asWords(t, noise)
	}
	if found < 5000 || found > 19000 {
		t.Errorf("%d are states'", found)
	}
}

// anyState is any state that may be, with some of the nodes: one of so many.
func anyState(random *rand.Rand, of int) api.State {
	s := api.State{Upto: random.Intn(1<<62) >> random.Intn(62), Boot: random.Intn(1<<30) >> random.Intn(30)}
	for n := 1; n <= 64; n++ {
		if random.Intn(of) == 0 {
			l := api.Lsa{Origin: n, Seq: 1 + random.Intn(1<<62)>>random.Intn(62)}
			for k, many := 1, random.Intn(17); k <= 64 && len(l.Links) < many; k++ {
				if k != n && random.Intn(3) == 0 {
					l.Links = append(l.Links, api.Link{To: k, Cost: 1 + random.Intn(1<<30)>>random.Intn(30)})
				}
			}
			s.Db = append(s.Db, l)
		}
		if random.Intn(of) == 0 {
			s.Epochs = append(s.Epochs, api.Epoch{Of: n, N: 1 + random.Intn(1<<30)>>random.Intn(30)})
		}
	}
	return s
}

// Ba3: what is put is got, any state that may be.
func TestPutGet(t *testing.T) {
	random := rand.New(rand.NewSource(5))
	for range 2000 {
		s := anyState(random, 1+random.Intn(8))
		b, e := Put(s)
		if e != api.OK || !bytes.Equal(b, laid(s)) {
			t.Fatalf("Put(%v) = %x, %d", s, b, e)
		}
		if got, e := Get(b); e != api.OK || !equal(got, s) || !Same(got, s) {
			t.Fatalf("Get of what %v is put as = %v, %d", s, got, e)
		}
	}
}

// Ba1: Same, of all pairs, against the tests' own words, also of states that may not be.
func TestSame(t *testing.T) {
	all := append(maybe(), never()...)
	for i, a := range all {
		for k, b := range all {
			if got := Same(a, b); got != equal(a, b) {
				t.Errorf("Same of %d and %d = %v", i, k, got)
			}
		}
	}
	empty := api.State{Db: []api.Lsa{}, Epochs: []api.Epoch{}}
	if !Same(empty, api.State{}) || !Same(api.State{}, empty) || !Same(lsas(told(3, 7)), lsas(api.Lsa{Origin: 3, Seq: 7, Links: []api.Link{}})) {
		t.Error("no list and an empty one are unlike")
	}
}

// Ba1: states that are unlike in one part alone are unlike.
func TestSameOne(t *testing.T) {
	for i, turn := range []func(s *api.State){
		func(s *api.State) { s.Upto++ }, func(s *api.State) { s.Upto += 1 << 32 }, func(s *api.State) { s.Boot++ }, func(s *api.State) { s.Boot += 1 << 32 }, func(s *api.State) { s.Upto, s.Boot = s.Boot, s.Upto },
		func(s *api.State) { s.Db = s.Db[:3] }, func(s *api.State) { s.Db = s.Db[1:] }, func(s *api.State) { s.Db = nil }, func(s *api.State) { s.Db = append(s.Db, told(64, 1)) }, func(s *api.State) { slices.Reverse(s.Db) },
		func(s *api.State) { s.Db[0].Origin-- }, func(s *api.State) { s.Db[3].Seq-- }, func(s *api.State) { s.Db[0].Links[1].To++ }, func(s *api.State) { s.Db[3].Links[15].Cost-- }, func(s *api.State) { s.Db[3].Links = s.Db[3].Links[:15] }, func(s *api.State) { s.Db[1].Links = nil },
		func(s *api.State) { s.Epochs = s.Epochs[:2] }, func(s *api.State) { s.Epochs = s.Epochs[1:] }, func(s *api.State) { s.Epochs = nil }, func(s *api.State) { s.Epochs = append(s.Epochs, api.Epoch{Of: 64, N: 1}) }, func(s *api.State) { slices.Reverse(s.Epochs) },
		func(s *api.State) { s.Epochs[0].Of-- }, func(s *api.State) { s.Epochs[2].Of++ }, func(s *api.State) { s.Epochs[0].N++ }, func(s *api.State) { s.Epochs[2].N-- },
	} {
		a, b := mixed(), mixed()
		turn(&b)
		if Same(a, b) || Same(b, a) || !Same(a, mixed()) || !Same(b, b) {
			t.Errorf("turned by %d: %v is as %v", i, b, a)
		}
	}
}

// Ba1: Copy is as what it is a copy of, also of a state that may not be.
func TestCopy(t *testing.T) {
	for _, s := range append(maybe(), never()...) {
		if c := Copy(s); !equal(c, s) {
			t.Errorf("Copy(%v) = %v", s, c)
		}
	}
}

// spoil writes to all that a state has, and to what stands behind each list.
func spoil(s api.State) {
	for _, l := range s.Db {
		for i := range l.Links[:cap(l.Links)] {
			l.Links[:cap(l.Links)][i] = api.Link{To: 99, Cost: 99}
		}
	}
	for i := range s.Db[:cap(s.Db)] {
		s.Db[:cap(s.Db)][i] = api.Lsa{Origin: 99, Seq: 99}
	}
	for i := range s.Epochs[:cap(s.Epochs)] {
		s.Epochs[:cap(s.Epochs)][i] = api.Epoch{Of: 99, N: 99}
	}
}

// R3: Copy, Apply and Get answer new memory; what they were handed is as it was, and they as they answered.
func TestNewMemory(t *testing.T) {
	s, b := mixed(), laid(mixed())
	l := func() []api.Change {
		return list(ofLsa(full(3, 8)), lsaOf(10, 1, 2, 3), lsaOf(11, 1, 2, 3), epoch(9, 301), epoch(1, 1))
	}
	handed := l()
	want, _ := turned(mixed(), l())
	for what, call := range map[string]func() (api.State, api.State){
		"Copy": func() (api.State, api.State) { return Copy(s), mixed() },
		"Get":  func() (api.State, api.State) { x, _ := Get(b); return x, mixed() },
		"Apply of nothing": func() (api.State, api.State) {
			x, _ := Apply(s, nil)
			return x, mixed()
		},
		"Apply": func() (api.State, api.State) { x, _ := Apply(s, handed); return x, want },
	} {
		first, is := call()
		second, _ := call()
		spoil(second)
		if !equal(first, is) || !equal(s, mixed()) || !bytes.Equal(b, laid(mixed())) || !slices.EqualFunc(handed, l(), func(a, b api.Change) bool { return equalLsa(a.Lsa, b.Lsa) && a.N == b.N && a.Of == b.Of }) {
			t.Errorf("%s: with another answer spoilt it is %v; handed in %v, %x, %v", what, first, s, b, handed)
		}
	}
	first, _ := Apply(s, handed)
	copied := Copy(s)
	spoil(s)
	for _, c := range handed {
		clear(c.Lsa.Links)
	}
	if !equal(first, want) || !equal(copied, mixed()) {
		t.Errorf("with what was handed in spoilt: %v, %v", first, copied)
	}
}

// R3: no two lists of one answer share memory, also where those handed in do.
func TestListsApart(t *testing.T) {
	links := []api.Link{{To: 50, Cost: 1}, {To: 51, Cost: 2}, {To: 52, Cost: 3}}
	shared := func(n int) api.Lsa { return api.Lsa{Origin: n, Seq: 1, Links: links[:2]} }
	s := api.State{Db: []api.Lsa{shared(1), shared(2)}}
	done, _ := Apply(s, list(ofLsa(shared(3)), ofLsa(shared(4))))
	got, _ := Get(laid(api.State{Db: []api.Lsa{shared(1), shared(2), shared(3), shared(4)}}))
	for what, x := range map[string]api.State{"Apply": done, "Get": got, "Copy": Copy(s)} {
		for i := range x.Db {
			_ = append(x.Db[i].Links, api.Link{To: 60 + i, Cost: 9})
			for k := range x.Db[i].Links {
				x.Db[i].Links[k].Cost = 100 + i
			}
			for k := range x.Db {
				if k != i && x.Db[k].Links[0].Cost == 100+i {
					t.Errorf("%s: the links of %d and %d are the same", what, i, k)
				}
			}
		}
	}
	if links[0].Cost != 1 || links[1].Cost != 2 || links[2] != (api.Link{To: 52, Cost: 3}) {
		t.Errorf("what was handed in is %v", links)
	}
}

// R3: what is refused, or only looked at, is as it was, also what stands behind its lists.
func TestHandedIn(t *testing.T) {
	fill := func() api.State {
		s := mixed()
		s.Db = append(slices.Grow(s.Db, 8), told(64, 3))[:4]
		s.Epochs = append(slices.Grow(s.Epochs, 8), api.Epoch{Of: 64, N: 3})[:3]
		return s
	}
	s := fill()
	for _, l := range [][]api.Change{
		list(lsaOf(3, 8, 9), epoch(4, 9), lsaOf(5, 1), epoch(5, 1), upto(1)), list(lsaOf(3, 8), epoch(4, 9), lsaOf(63, 1), epoch(63, 1)), list(lsaOf(3, 8), upto(0)), nil,
	} {
		Apply(s, l)
	}
	Check(s)
	Put(s)
	Same(s, mixed())
	Copy(s)
	if !equal(s, mixed()) || !equalLsa(s.Db[:5][4], told(64, 3)) || s.Epochs[:4][3] != (api.Epoch{Of: 64, N: 3}) {
		t.Errorf("it is %v now, and behind it %v and %v", s, s.Db[:5][4], s.Epochs[:4][3])
	}
}

// R3: what was put is new memory, each time.
func TestPutNewMemory(t *testing.T) {
	s := mixed()
	first, _ := Put(s)
	second, _ := Put(s)
	clear(second[:cap(second)])
	spoil(s)
	if !bytes.Equal(first, laid(mixed())) {
		t.Errorf("what was put is %x now", first)
	}
}
