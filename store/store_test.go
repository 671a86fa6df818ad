package store

import (
	"bytes"
	"encoding/binary"
	"fmt"
	"maps"
	"math"
	"math/rand"
	"slices"
	"testing"

	"waymark/api"
	"waymark/disk"
	"waymark/wal"
)

// told is a node's Lsa, with links to these nodes.
func told(origin, seq int, nodes ...int) api.Lsa {
	l := api.Lsa{Origin: origin, Seq: seq}
	for i, n := range nodes {
		l.Links = append(l.Links, api.Link{To: n, Cost: 100*n + i + 1})
	}
	return l
}

// full is a node's Lsa with as many links as there may be.
func full(origin, seq int) api.Lsa {
	l := api.Lsa{Origin: origin, Seq: seq}
	for n := 1; len(l.Links) < 16; n++ {
		if n != origin {
			l.Links = append(l.Links, api.Link{To: n, Cost: 1<<30 - n})
		}
	}
	return l
}

// The changes of each kind, and lists of them.
func ofLsa(l api.Lsa) api.Change        { return api.Change{Kind: api.ChangeLsa, Lsa: l} }
func upto(n int) api.Change             { return api.Change{Kind: api.ChangeUpto, N: n} }
func boot(n int) api.Change             { return api.Change{Kind: api.ChangeBoot, N: n} }
func epoch(of, n int) api.Change        { return api.Change{Kind: api.ChangeEpoch, Of: of, N: n} }
func list(l ...api.Change) []api.Change { return l }

// boots are as many starts, behind that one.
func boots(behind, many int) []api.Change {
	var l []api.Change
	for i := range many {
		l = append(l, boot(behind+1+i))
	}
	return l
}

// fulls are the Lsas of nodes from one on, each with as many links as there may be.
func fulls(from, many, seq int) []api.Change {
	var l []api.Change
	for i := range many {
		l = append(l, ofLsa(full(from+i, seq)))
	}
	return l
}

// isIn tells whether a number is within two others.
func isIn(n, low, high int) bool { return low <= n && n <= high }

// mayLsa tells, as chapter 9 words it, whether an Lsa may be.
func mayLsa(l api.Lsa) bool {
	if !isIn(l.Origin, 1, 64) || !isIn(l.Seq, 1, 1<<62) || len(l.Links) > 16 {
		return false
	}
	for i, k := range l.Links {
		if !isIn(k.To, 1, 64) || k.To == l.Origin || !isIn(k.Cost, 1, 1<<30) || i > 0 && l.Links[i-1].To >= k.To {
			return false
		}
	}
	return true
}

// mayChange tells, as chapter 10 words it, whether a change may be.
func mayChange(c api.Change) bool {
	noLsa := c.Lsa.Origin == 0 && c.Lsa.Seq == 0 && len(c.Lsa.Links) == 0
	switch c.Kind {
	case 1:
		return mayLsa(c.Lsa) && c.N == 0 && c.Of == 0
	case 2:
		return noLsa && isIn(c.N, 1, 1<<62) && c.Of == 0
	case 3:
		return noLsa && isIn(c.N, 1, 1<<30) && c.Of == 0
	case 4:
		return noLsa && isIn(c.N, 1, 1<<30) && isIn(c.Of, 1, 64)
	}
	return false
}

// lsaBytes are an Lsa's bytes as chapter 9 words them.
func lsaBytes(l api.Lsa) []byte {
	b := binary.BigEndian.AppendUint64([]byte{byte(l.Origin)}, uint64(l.Seq))
	b = append(b, byte(len(l.Links)))
	for _, k := range l.Links {
		b = binary.BigEndian.AppendUint32(append(b, byte(k.To)), uint32(k.Cost))
	}
	return b
}

// changeBytes are changes' bytes as chapter 10 words them, whether they may be or not.
func changeBytes(l []api.Change) []byte {
	b := []byte{byte(len(l))}
	for _, c := range l {
		b = append(b, byte(c.Kind))
		switch c.Kind {
		case 1:
			b = append(b, lsaBytes(c.Lsa)...)
		case 2:
			b = binary.BigEndian.AppendUint64(b, uint64(c.N))
		case 3:
			b = binary.BigEndian.AppendUint32(b, uint32(c.N))
		case 4:
			b = binary.BigEndian.AppendUint32(append(b, byte(c.Of)), uint32(c.N))
		}
	}
	return b
}

// stateBytes are a state's bytes as chapter 11 words them.
func stateBytes(s api.State) []byte {
	b := binary.BigEndian.AppendUint64(nil, uint64(s.Upto))
	b = binary.BigEndian.AppendUint32(b, uint32(s.Boot))
	b = append(b, byte(len(s.Db)))
	for _, l := range s.Db {
		b = append(b, lsaBytes(l)...)
	}
	b = append(b, byte(len(s.Epochs)))
	for _, x := range s.Epochs {
		b = binary.BigEndian.AppendUint32(append(b, byte(x.Of)), uint32(x.N))
	}
	return b
}

// turned is a state with a change done, and whether it was old, as chapter 11 words it.
func turned(s api.State, c api.Change) (api.State, bool) {
	db, epochs := map[int]api.Lsa{}, map[int]int{}
	for _, l := range s.Db {
		db[l.Origin] = l
	}
	for _, x := range s.Epochs {
		epochs[x.Of] = x.N
	}
	is, old := api.State{Upto: s.Upto, Boot: s.Boot}, false
	switch c.Kind {
	case 1:
		there, found := db[c.Lsa.Origin]
		old, db[c.Lsa.Origin] = found && there.Seq >= c.Lsa.Seq, c.Lsa
	case 2:
		old, is.Upto = s.Upto >= c.N, c.N
	case 3:
		old, is.Boot = s.Boot >= c.N, c.N
	case 4:
		old, epochs[c.Of] = epochs[c.Of] >= c.N, c.N
	}
	for _, n := range slices.Sorted(maps.Keys(db)) {
		is.Db = append(is.Db, db[n])
	}
	for _, n := range slices.Sorted(maps.Keys(epochs)) {
		is.Epochs = append(is.Epochs, api.Epoch{Of: n, N: epochs[n]})
	}
	return is, old
}

// with is a state with changes done, as chapters 10 and 11 word it.
func with(s api.State, l []api.Change) (api.State, api.Errno) {
	if !isIn(len(l), 1, 40) || slices.ContainsFunc(l, func(c api.Change) bool { return !mayChange(c) }) {
		return api.State{}, api.ErrArg
	}
	for _, c := range l {
		is, old := turned(s, c)
		if old {
			return api.State{}, api.ErrOld
		}
		s = is
	}
	return s, api.OK
}

// needs is how many pages a record of some bytes has: more than any disk has sectors for, if it is none.
func needs(b []byte) int {
	if len(b) > 7808 {
		return math.MaxInt
	}
	return max(1, (len(b)+487)/488)
}

// model is a store, in the tests' own words: a state, and what the wal says on a disk of some sectors.
type model struct {
	sectors int
	state   api.State
	gen     int
	base    []byte
	records [][]byte
}

// fresh is a new disk's.
func fresh(sectors int) model { return model{sectors: sectors, gen: 1} }

// slot is how many sectors a slot has, free how many places of the log are left.
func (m model) slot() int { return min(m.sectors/4, 16) }
func (m model) free() int {
	n := m.sectors - 2*m.slot()
	for _, b := range m.records {
		n -= needs(b)
	}
	return n
}

// turn is the model with a state turned to, and what is answered, as the chapter words it.
func (m model) turn(s api.State) (model, api.Errno) {
	b := stateBytes(s)
	if needs(b) > m.slot() || m.gen == 1<<31 {
		return m, api.ErrFull
	}
	return model{sectors: m.sectors, state: s, gen: m.gen + 1, base: b}, api.OK
}

// do is the model with changes done, and what is answered, as the chapter words it.
func (m model) do(l []api.Change) (model, api.Errno) {
	s, e := with(m.state, l)
	if e != api.OK {
		return m, e
	}
	b := changeBytes(l)
	if needs(b) > m.free() {
		return m.turn(s)
	}
	m.state, m.records = s, append(slices.Clone(m.records), b)
	return m, api.OK
}

// equalLsa tells whether Lsas are alike.
func equalLsa(a, b api.Lsa) bool {
	return a.Origin == b.Origin && a.Seq == b.Seq && slices.Equal(a.Links, b.Links)
}

// equal tells whether states are alike.
func equal(a, b api.State) bool {
	return a.Upto == b.Upto && a.Boot == b.Boot && slices.EqualFunc(a.Db, b.Db, equalLsa) && slices.Equal(a.Epochs, b.Epochs)
}

// same tells whether lists have the same bytes.
func same(a, b [][]byte) bool { return slices.EqualFunc(a, b, bytes.Equal) }

// diskOf is a disk of n sectors.
func diskOf(n int) *disk.Disk {
	d, e := disk.New(n)
	if e != api.OK {
		panic(fmt.Sprint("no disk of ", n))
	}
	return d
}

// written is a disk whose wal says a base, of generation 2, and records.
func written(n int, base []byte, records ...[]byte) *disk.Disk {
	d := diskOf(n)
	w, _, _, e := wal.Open(d)
	if e != api.OK || w.Turn(base) != api.OK {
		panic("the base is not taken")
	}
	for _, b := range records {
		if w.Commit(b) != api.OK {
			panic("the record is not taken")
		}
	}
	return d
}

// last is a disk whose wal is of the last generation but one, without bytes.
func last(n int) *disk.Disk {
	d := diskOf(n)
	page := make([]byte, 508)
	copy(page, "WAY\x01\x7f\xff\xff\xff")
	page[17] = 1
	page = binary.BigEndian.AppendUint32(page, sum(page))
	if d.Write(n/4, page) != api.OK || d.Flush() != api.OK {
		panic("the page is not taken")
	}
	return d
}

// sum is a check of bytes as chapter 1 words it.
func sum(b []byte) uint32 {
	s := ^uint32(0)
	for _, x := range b {
		s ^= uint32(x)
		for range 8 {
			s = s>>1 ^ 0xEDB88320*(s&1)
		}
	}
	return ^s
}

// image are all sectors of a disk that lives.
func image(t *testing.T, d *disk.Disk) [][]byte {
	t.Helper()
	l := make([][]byte, d.Size())
	for i := range l {
		b, e := d.Read(i)
		if e != api.OK {
			t.Fatalf("sector %d: %d", i, e)
		}
		l[i] = b
	}
	return l
}

// opened is the store of a disk, which must not be refused.
func opened(t *testing.T, d *disk.Disk, what string) *Store {
	t.Helper()
	s, e := Open(d)
	if e != api.OK || s == nil {
		t.Fatalf("%s: Open = %v, %d", what, s, e)
	}
	return s
}

// tells fails if a store is not as the model is.
func tells(t *testing.T, s *Store, m model, what string) {
	t.Helper()
	if x := s.State(); !equal(x, m.state) || s.Gen() != m.gen || s.Broken() {
		t.Errorf("%s: %v, generation %d, broken %v, want %v, %d", what, x, s.Gen(), s.Broken(), m.state, m.gen)
	}
}

// keeps fails if a store, its disk's wal, or the store that is opened of the disk when all that waits is lost, are not as the model is.
func keeps(t *testing.T, s *Store, d *disk.Disk, m model, what string) {
	t.Helper()
	tells(t, s, m, what)
	c := d.Clone()
	c.Crash(nil)
	w, base, l, e := wal.Open(c)
	if e != api.OK || w.Gen() != m.gen || !bytes.Equal(base, m.base) || !same(l, m.records) {
		t.Errorf("%s: the wal is of generation %d, with %x and %x, %d, want %d, %x and %x", what, w.Gen(), base, l, e, m.gen, m.base, m.records)
	}
	tells(t, opened(t, c, what), m, what+", opened")
}

// does fails if an error is another one.
func does(t *testing.T, got, want api.Errno, what string) {
	t.Helper()
	if got != want {
		t.Errorf("%s = %d, want %d", what, got, want)
	}
}

// refused fails if a disk opens, if another error is told, or the disk is turned.
func refused(t *testing.T, d *disk.Disk, want api.Errno, what string) {
	t.Helper()
	c := d.Clone()
	if s, e := Open(d); e != want || s != nil {
		t.Errorf("%s: Open = %v, %d, want %d", what, s, e, want)
	}
	if c != nil && (d.Dead() != c.Dead() || len(d.Waits()) != 0 || !d.Dead() && !same(image(t, d), image(t, c))) {
		t.Errorf("%s: Open turns the disk", what)
	}
}

// stays fails if a call answers another error, or turns the store, which is as the model is, or its disk.
func stays(t *testing.T, s *Store, d *disk.Disk, m model, want api.Errno, what string, call func() api.Errno) {
	t.Helper()
	was := image(t, d)
	d.Arm(0)
	does(t, call(), want, what)
	if d.Dead() {
		t.Fatalf("%s: an act of the disk", what)
	}
	d.Arm(-1)
	if len(d.Waits()) != 0 || !same(image(t, d), was) {
		t.Errorf("%s: the disk is turned", what)
	}
	tells(t, s, m, what)
}

// noise are n bytes, the same in every run.
func noise(n int) []byte {
	b := make([]byte, n)
	rand.New(rand.NewSource(int64(n))).Read(b)
	return b
}

// mixed is a state in which each part has something.
func mixed() api.State {
	return api.State{Db: []api.Lsa{told(3, 7, 4, 9), told(4, 258, 3), told(9, 1), full(33, 1<<62)}, Upto: 16, Boot: 2, Epochs: []api.Epoch{{Of: 4, N: 1}, {Of: 9, N: 300}, {Of: 40, N: 1 << 30}}}
}

// St1: Open tells the wal's error, of each kind, and writes nothing.
func TestOpenErrors(t *testing.T) {
	refused(t, nil, api.ErrArg, "no disk")
	refused(t, &disk.Disk{}, api.ErrArg, "a zero disk")
	for n := 1; n < 6; n++ {
		refused(t, diskOf(n), api.ErrArg, fmt.Sprint(n, " sectors"))
	}
	dead := diskOf(20)
	dead.Arm(0)
	dead.Flush()
	refused(t, dead, api.ErrDead, "a dead disk")
	spoilt := diskOf(20)
	spoilt.Write(3, noise(512))
	spoilt.Flush()
	refused(t, spoilt, api.ErrCorrupt, "no slot is whole")
	marked := diskOf(20)
	page := make([]byte, 508)
	copy(page, "WAY\x01\x00\x00\x00\x02\x80")
	page[17] = 1
	marked.Write(0, binary.BigEndian.AppendUint32(page, sum(page)))
	marked.Flush()
	refused(t, marked, api.ErrFull, "the mark is the greatest one")
}

// St1: a new disk's store has the state of nothing, of generation 1; it is opened by two acts.
func TestOpenNew(t *testing.T) {
	for _, n := range []int{6, 20, 64, 1024} {
		d := diskOf(n)
		d.Arm(2)
		s := opened(t, d, "new")
		does(t, d.Flush(), api.ErrDead, "a third act")
		d.Crash(nil)
		keeps(t, s, d, fresh(n), fmt.Sprint("new, of ", n))
		keeps(t, opened(t, d, "again"), d, fresh(n), fmt.Sprint("again, of ", n))
	}
}

// St1, P2: a new disk that dies of it is refused with the disk's error, and opens as a new one behind the crash.
func TestOpenNewDies(t *testing.T) {
	for acts := range 2 {
		d := diskOf(20)
		d.Arm(acts)
		if s, e := Open(d); s != nil || e != api.ErrDead {
			t.Errorf("%d acts: %v, %d", acts, s, e)
		}
		crashes(d, func(c *disk.Disk, what string) {
			keeps(t, opened(t, c, what), c, fresh(20), fmt.Sprint(acts, " acts, ", what))
		})
	}
}

// saying is a wal's base, and the lists of changes whose bytes its records are, and what it says then.
type saying struct {
	base    []byte
	changes [][]api.Change
	state   api.State
}

// sayings are wals that say something.
func sayings() []saying {
	one := api.State{Db: []api.Lsa{told(3, 7, 4)}}
	return []saying{
		{nil, nil, api.State{}},
		{[]byte{}, [][]api.Change{list(boot(1))}, api.State{Boot: 1}},
		{make([]byte, 14), nil, api.State{}},
		{make([]byte, 14), [][]api.Change{list(upto(9), boot(1), boot(2))}, api.State{Upto: 9, Boot: 2}},
		{stateBytes(mixed()), nil, mixed()},
		{nil, [][]api.Change{list(ofLsa(told(3, 7, 4)))}, one},
		{nil, [][]api.Change{list(ofLsa(told(3, 6, 9))), list(ofLsa(told(3, 7, 4)))}, one},
		{stateBytes(api.State{Db: []api.Lsa{told(3, 6, 9)}}), [][]api.Change{list(ofLsa(told(3, 7, 4)))}, one},
		{stateBytes(api.State{Upto: 1 << 62, Boot: 1<<30 - 1}), [][]api.Change{list(boot(1 << 30)), list(epoch(64, 1)), list(epoch(64, 2), epoch(1, 1))}, api.State{Upto: 1 << 62, Boot: 1 << 30, Epochs: []api.Epoch{{Of: 1, N: 1}, {Of: 64, N: 2}}}},
		{nil, [][]api.Change{boots(0, 40), boots(40, 40), boots(80, 1)}, api.State{Boot: 81}},
	}
}

// St1: Open tells the store of what the wal says: the state that its base is, of nothing if it has none, with each record's changes done.
func TestOpenSays(t *testing.T) {
	for k, x := range sayings() {
		m := model{sectors: 40, state: x.state, gen: 2, base: x.base}
		for _, l := range x.changes {
			m.records = append(m.records, changeBytes(l))
		}
		d := written(40, m.base, m.records...)
		what := fmt.Sprint("saying ", k)
		was := image(t, d)
		d.Arm(0)
		s := opened(t, d, what)
		if d.Dead() || len(d.Waits()) != 0 || !same(image(t, d), was) {
			t.Errorf("%s: Open writes", what)
		}
		keeps(t, s, d, m, what)
	}
}

// St1: a base without bytes is nothing's state, of any generation.
func TestOpenLast(t *testing.T) {
	d := last(20)
	m := model{sectors: 20, gen: 1<<31 - 1}
	keeps(t, opened(t, d, "last"), d, m, "the last generation but one")
}

// St1: ErrCorrupt, if a base's bytes are no state's; nothing is written.
func TestOpenNoState(t *testing.T) {
	never := []api.State{
		{Upto: -1}, {Upto: 1<<62 + 1}, {Boot: 1<<30 + 1}, {Db: []api.Lsa{told(4, 1), told(3, 1)}}, {Db: []api.Lsa{told(3, 1), told(3, 2)}}, {Db: []api.Lsa{told(3, 1, 3)}}, {Db: []api.Lsa{told(65, 1)}},
		{Epochs: []api.Epoch{{Of: 65, N: 1}}}, {Epochs: []api.Epoch{{Of: 4, N: 1}, {Of: 3, N: 1}}}, {Epochs: []api.Epoch{{Of: 4, N: 0}}},
	}
	l := [][]byte{{0}, {1}, make([]byte, 13), make([]byte, 15), noise(14), noise(100), noise(5000), changeBytes(list(boot(1)))}
	for _, s := range never {
		l = append(l, stateBytes(s))
	}
	whole := stateBytes(mixed())
	for n := 1; n < len(whole); n++ {
		l = append(l, whole[:n])
	}
	l = append(l, append(slices.Clone(whole), 0))
	for k, b := range l {
		refused(t, written(60, b), api.ErrCorrupt, fmt.Sprint("base ", k))
		refused(t, written(60, b, changeBytes(list(boot(1)))), api.ErrCorrupt, fmt.Sprint("base ", k, ", with a record"))
	}
}

// St1: ErrCorrupt, if a record's bytes are no changes', or one of them can't be done, behind those ahead; nothing is written.
func TestOpenNoChanges(t *testing.T) {
	whole := changeBytes(list(boot(1), ofLsa(told(3, 7, 4)), upto(9), epoch(4, 1)))
	l := [][]byte{
		{}, {0}, {1}, append(slices.Clone(whole), 0), noise(20), noise(2000), changeBytes(boots(0, 41)), make([]byte, 14), stateBytes(mixed()),
		changeBytes(list(boot(0))), changeBytes(list(boot(1<<30 + 1))), changeBytes(list(upto(1<<62 + 1))), changeBytes(list(epoch(65, 1))), changeBytes(list(ofLsa(told(3, 7, 3)))), changeBytes(list(api.Change{Kind: 5})),
		changeBytes(list(boot(1), boot(1))), changeBytes(list(boot(2), boot(1))), changeBytes(list(upto(2), upto(2))), changeBytes(list(epoch(4, 2), epoch(4, 2))), changeBytes(list(ofLsa(told(3, 7)), ofLsa(told(3, 7, 4)))),
	}
	for n := 1; n < len(whole); n++ {
		l = append(l, whole[:n])
	}
	more := changeBytes(list(epoch(50, 9)))
	for k, b := range l {
		for i, ahead := range [][][]byte{{}, {more}, {more, changeBytes(list(epoch(50, 10)))}} {
			what := fmt.Sprint("record ", k, " behind ", i)
			refused(t, written(40, nil, append(ahead, b)...), api.ErrCorrupt, what)
			refused(t, written(40, nil, append(ahead, b, changeBytes(list(epoch(51, 1))))...), api.ErrCorrupt, what+", and one more")
		}
	}
}

// St1: ErrCorrupt, if a record's changes are old at what the base, or a record ahead of it, has.
func TestOpenOld(t *testing.T) {
	was := stateBytes(mixed())
	for k, c := range []api.Change{ofLsa(told(3, 7)), ofLsa(told(3, 6)), ofLsa(full(33, 1<<62)), upto(16), upto(1), boot(2), boot(1), epoch(9, 300), epoch(9, 1), epoch(40, 1<<30)} {
		refused(t, written(20, was, changeBytes(list(c))), api.ErrCorrupt, fmt.Sprint("change ", k, " behind a base"))
		refused(t, written(20, was, changeBytes(list(epoch(50, 1), c))), api.ErrCorrupt, fmt.Sprint("change ", k, " behind a base and a change"))
		refused(t, written(20, nil, changeBytes(list(c)), changeBytes(list(c))), api.ErrCorrupt, fmt.Sprint("change ", k, " twice"))
	}
}

// St1: Do at known bytes: what is committed.
func TestDoKnown(t *testing.T) {
	d := diskOf(20)
	s := opened(t, d, "new")
	does(t, s.Do(list(boot(1))), api.OK, "Do")
	does(t, s.Do(list(ofLsa(told(3, 7, 4)), epoch(4, 1), upto(258))), api.OK, "Do")
	_, base, l, _ := wal.Open(d)
	want := [][]byte{
		{1, 3, 0, 0, 0, 1},
		{3, 1, 3, 0, 0, 0, 0, 0, 0, 0, 7, 1, 4, 0, 0, 1, 0x91, 4, 4, 0, 0, 0, 1, 2, 0, 0, 0, 0, 0, 0, 1, 2},
	}
	if len(base) != 0 || !same(l, want) {
		t.Errorf("%x, %x", base, l)
	}
	does(t, s.Turn(), api.OK, "Turn")
	_, base, l, _ = wal.Open(d)
	turned := []byte{0, 0, 0, 0, 0, 0, 1, 2, 0, 0, 0, 1, 1, 3, 0, 0, 0, 0, 0, 0, 0, 7, 1, 4, 0, 0, 1, 0x91, 1, 4, 0, 0, 0, 1}
	if !bytes.Equal(base, turned) || len(l) != 0 {
		t.Errorf("%x, %x", base, l)
	}
}

// St1, the chapter's example: Do of one Lsa, crash, Open: it is there.
func TestExample(t *testing.T) {
	d := diskOf(20)
	does(t, opened(t, d, "new").Do(list(ofLsa(told(3, 7, 4)))), api.OK, "Do")
	d.Crash(nil)
	if s := opened(t, d, "crashed").State(); !equal(s, api.State{Db: []api.Lsa{told(3, 7, 4)}}) {
		t.Errorf("%v", s)
	}
}

// St1: changes of each kind, one list behind the other, are committed, and done.
func TestDo(t *testing.T) {
	d, m := diskOf(64), fresh(64)
	s := opened(t, d, "new")
	for k, l := range [][]api.Change{
		list(boot(1)), list(boot(2)), list(upto(16)), list(ofLsa(told(3, 7))), list(ofLsa(told(3, 8, 4))), list(ofLsa(full(1, 1<<62))), list(epoch(64, 1)), list(epoch(1, 1<<30)),
		list(boot(3), upto(17), ofLsa(told(64, 1)), epoch(2, 5), epoch(2, 6), boot(5), upto(1<<62), ofLsa(told(64, 2, 1, 2, 3))),
		boots(5, 40), fulls(10, 39, 4), list(boot(1 << 30)),
	} {
		is, e := m.do(l)
		does(t, e, api.OK, "the model")
		if k%4 == 3 {
			s = opened(t, d, "again")
		}
		does(t, s.Do(l), api.OK, fmt.Sprint("list ", k))
		m = is
		keeps(t, s, d, m, fmt.Sprint("list ", k))
	}
}

// St1: each list of changes is one record, in its own pages, which are written and then flushed.
func TestDoActs(t *testing.T) {
	for _, many := range []int{1, 5, 6, 20, 40} {
		l := fulls(1, many, 7)
		pages := needs(changeBytes(l))
		d := diskOf(40)
		s := opened(t, d, "new")
		d.Arm(pages + 1)
		does(t, s.Do(l), api.OK, fmt.Sprint(many, " Lsas"))
		does(t, d.Flush(), api.ErrDead, "one act more")
	}
}

// wrong are lists of which there are no bytes.
func wrong() [][]api.Change {
	l := [][]api.Change{nil, {}, boots(0, 41), boots(0, 1000), fulls(1, 41, 7)}
	for _, c := range []api.Change{
		{}, {Kind: -1}, {Kind: 5}, {Kind: 257, N: 1}, boot(0), boot(-1), boot(1<<30 + 1), upto(0), upto(-1), upto(1<<62 + 1), upto(math.MaxInt), upto(math.MinInt),
		epoch(0, 1), epoch(65, 1), epoch(1, 0), epoch(1, 1<<30+1), ofLsa(api.Lsa{}), ofLsa(told(0, 1)), ofLsa(told(65, 1)), ofLsa(told(3, 0)), ofLsa(told(3, 1, 3)), ofLsa(told(3, 1, 5, 4)),
		{Kind: api.ChangeBoot, N: 9, Of: 1}, {Kind: api.ChangeUpto, N: 900, Lsa: told(3, 1)}, {Kind: api.ChangeLsa, Lsa: told(30, 1), N: 1},
	} {
		l = append(l, list(c), list(boot(8), c), list(c, boot(8)))
	}
	return l
}

// older are lists one of whose changes is old at mixed(), when those ahead of it are done.
func older() [][]api.Change {
	l := [][]api.Change{list(boot(8), boot(8)), list(boot(8), boot(7)), list(upto(18), upto(18)), list(epoch(50, 2), epoch(50, 2)), list(ofLsa(told(50, 2)), ofLsa(told(50, 2, 3))), append(boots(2, 39), boot(1))}
	for _, c := range []api.Change{boot(2), boot(1), upto(16), upto(1), epoch(4, 1), epoch(9, 299), epoch(40, 1<<30), ofLsa(told(3, 7)), ofLsa(told(4, 257, 3)), ofLsa(full(33, 1<<62))} {
		l = append(l, list(c), list(c, boot(8)), list(boot(8), ofLsa(told(60, 1)), c))
	}
	return l
}

// St1, St2: Do tells ErrArg of no bytes, and layer 11's Apply's error, ErrArg ahead of ErrOld; nothing turns by it, on disks with room and without.
func TestDoRefused(t *testing.T) {
	for _, n := range []int{20, 60} {
		m := model{sectors: n, state: mixed(), gen: 2, base: stateBytes(mixed())}
		d := written(n, m.base)
		s := opened(t, d, "mixed")
		for i := range 12 {
			for k, l := range wrong() {
				stays(t, s, d, m, api.ErrArg, fmt.Sprint("wrong list ", k), func() api.Errno { return s.Do(l) })
				if len(l) > 0 {
					stays(t, s, d, m, api.ErrArg, fmt.Sprint("wrong list ", k, ", and old"), func() api.Errno { return s.Do(append(list(boot(1)), l...)) })
				}
			}
			for k, l := range older() {
				stays(t, s, d, m, api.ErrOld, fmt.Sprint("old list ", k), func() api.Errno { return s.Do(l) })
			}
			if i == 11 {
				break
			}
			l := list(epoch(60, i+1))
			does(t, s.Do(l), api.OK, "Do")
			m, _ = m.do(l)
		}
	}
}

// St1: if the log has no room for a record, the state behind it is turned to: the log is empty then, and the state the base.
func TestDoTurns(t *testing.T) {
	d, m := diskOf(20), fresh(20)
	s := opened(t, d, "new")
	for i := range 50 {
		what := fmt.Sprint("Do ", i)
		is, e := m.do(list(boot(i+1), ofLsa(told(1+i%5, i+1))))
		does(t, e, api.OK, "the model")
		does(t, s.Do(list(boot(i+1), ofLsa(told(1+i%5, i+1)))), api.OK, what)
		m = is
		// Ten places of the log: the eleventh record is none, but turned to.
		if s.Gen() != 1+(i+1)/11 || len(m.records) != (i+1)%11 {
			t.Errorf("%s: generation %d, %d records", what, s.Gen(), len(m.records))
		}
		keeps(t, s, d, m, what)
	}
}

// St1: a record that needs all places that are left is committed; one that needs one more is not.
func TestDoEdge(t *testing.T) {
	for _, pages := range []int{1, 2, 3, 8} {
		l := fulls(1, min((488*pages-1)/91, 40), 7)
		does(t, api.Errno(needs(changeBytes(l))), api.Errno(pages), "pages")
		for left := range 10 {
			d, m := diskOf(40), fresh(40)
			s := opened(t, d, "new")
			for i := range 20 - left {
				does(t, s.Do(list(boot(i+1))), api.OK, "Do")
				m, _ = m.do(list(boot(i + 1)))
			}
			what := fmt.Sprint(pages, " pages, ", left, " places are left")
			does(t, s.Do(l), api.OK, what)
			if got := s.Gen() == 1; got != (pages <= left) {
				t.Errorf("%s: generation %d", what, s.Gen())
			}
			m, _ = m.do(l)
			keeps(t, s, d, m, what)
		}
	}
}

// St1: a list whose record is too great for the log, at any time, is turned to, if the state behind it is not.
func TestDoGreat(t *testing.T) {
	for _, n := range []int{6, 8, 12} {
		d, m := diskOf(n), fresh(n)
		s := opened(t, d, "new")
		for k := range 5 {
			var l []api.Change
			for i := range 40 {
				l = append(l, ofLsa(full(9, 40*k+i+1)))
			}
			does(t, s.Do(l), api.OK, "Do")
			m, _ = m.do(l)
			keeps(t, s, d, m, fmt.Sprint(n, " sectors, list ", k))
			if s.Gen() != k+2 {
				t.Errorf("%d sectors, list %d: generation %d", n, k, s.Gen())
			}
		}
	}
}

// St1, St2: ErrFull, if the log has no room, and a slot none for the state behind; nothing turns by it, and what has room is done.
func TestDoFull(t *testing.T) {
	for _, n := range []int{6, 8, 12, 20} {
		d, m := diskOf(n), fresh(n)
		s := opened(t, d, "new")
		seq, refusals := 1, 0
		for i := 0; refusals < 10; i++ {
			what := fmt.Sprint(n, " sectors, list ", i)
			l := fulls(1+i%60, 4, seq)
			is, e := m.do(l)
			if e == api.ErrFull {
				stays(t, s, d, m, e, what, func() api.Errno { return s.Do(l) })
				stays(t, s, d, m, e, what+", again", func() api.Errno { return s.Do(l) })
				stays(t, s, d, m, api.ErrArg, what+", behind it", func() api.Errno { return s.Do(nil) })
				refusals++
				l = list(boot(i + 1))
				is, e = m.do(l)
			}
			if e == api.ErrFull {
				stays(t, s, d, m, e, what+", the state that is is too great", func() api.Errno { return s.Do(l) })
				stays(t, s, d, m, e, what+", Turn", s.Turn)
				continue
			}
			does(t, s.Do(l), e, what)
			m = is
			keeps(t, s, d, m, what)
			if i%60 == 56 {
				seq++
			}
		}
	}
}

// sized are changes by which nothing becomes a state of 14 bytes and some fives: a full Lsa has eighteen, an epoch one.
func sized(fives int) []api.Change {
	lsas := min(fives/18, 64)
	l := fulls(1, lsas, 7)
	for i := range fives - 18*lsas {
		l = append(l, epoch(i+1, 1))
	}
	return l
}

// filled is a disk of n sectors, and its store and model, with changes done, in lists of forty.
func filled(t *testing.T, n int, l []api.Change) (*disk.Disk, *Store, model) {
	t.Helper()
	d, m := diskOf(n), fresh(n)
	s := opened(t, d, "new")
	for part := range slices.Chunk(l, 40) {
		does(t, s.Do(part), api.OK, "Do")
		m, _ = m.do(part)
	}
	if m.gen != 1 {
		t.Fatalf("%d sectors: the log has no room for what a test lays out", n)
	}
	return d, s, m
}

// edgy are how many sectors disks have that have no room for each state.
var edgy = []int{6, 8, 12, 20, 32, 51}

// St1: Turn takes a state of as many bytes as a slot has, of one generation more, and empties the log; it tells ErrFull of more, and nothing turns by it.
func TestTurnEdge(t *testing.T) {
	for _, n := range edgy {
		most := (488*(n/4) - 14) / 5
		for _, fives := range []int{0, 1, most - 1, most, most + 1, most + 2} {
			d, s, m := filled(t, n, sized(fives))
			what := fmt.Sprint(n, " sectors, fives ", fives)
			if fives > most {
				stays(t, s, d, m, api.ErrFull, what, s.Turn)
				does(t, s.Do(list(boot(1))), api.OK, what+", Do")
				m, _ = m.do(list(boot(1)))
				keeps(t, s, d, m, what+", Do")
				continue
			}
			for range 3 {
				does(t, s.Turn(), api.OK, what)
				m, _ = m.turn(m.state)
				keeps(t, s, d, m, what)
			}
			if s.Gen() != 4 || len(m.records) != 0 {
				t.Errorf("%s: generation %d, %d records", what, s.Gen(), len(m.records))
			}
		}
	}
}

// St1: Do, if the log is full, takes a state behind it of as many bytes as a slot has; it tells ErrFull of more, and nothing turns by it.
func TestDoFullEdge(t *testing.T) {
	for _, n := range edgy {
		most := (488*(n/4) - 14) / 5
		for _, fives := range []int{1, most, most + 1} {
			l := sized(fives)
			d, s, m := filled(t, n, l[:len(l)-1])
			for i := 1; m.free() > 0; i++ {
				does(t, s.Do(list(boot(i))), api.OK, "Do")
				m, _ = m.do(list(boot(i)))
			}
			what := fmt.Sprint(n, " sectors, fives ", fives)
			if fives > most {
				stays(t, s, d, m, api.ErrFull, what, func() api.Errno { return s.Do(l[len(l)-1:]) })
				does(t, s.Turn(), api.OK, what+", Turn")
				m, _ = m.turn(m.state)
				keeps(t, s, d, m, what+", Turn")
				does(t, s.Do(l[len(l)-1:]), api.OK, what+", Do behind it")
				m, _ = m.do(l[len(l)-1:])
			} else {
				does(t, s.Do(l[len(l)-1:]), api.OK, what)
				m, _ = m.do(l[len(l)-1:])
				if s.Gen() != 2 {
					t.Errorf("%s: generation %d", what, s.Gen())
				}
			}
			keeps(t, s, d, m, what)
		}
	}
}

// St1: a disk from 52 sectors on has room for every state.
func TestTurnMost(t *testing.T) {
	l := sized(64*18 + 64)
	d, s, m := filled(t, 52, append(l, upto(1<<62), boot(1<<30)))
	does(t, s.Turn(), api.OK, "Turn")
	m, _ = m.turn(m.state)
	keeps(t, s, d, m, "as much as there may be")
	if len(m.base) != 6094 {
		t.Errorf("%d bytes", len(m.base))
	}
}

// St1: once there is no generation more, Turn, and Do if the log is full, tell the wal's error, ErrFull; nothing turns by it.
func TestLastGen(t *testing.T) {
	d, m := last(20), model{sectors: 20, gen: 1<<31 - 1}
	s := opened(t, d, "last")
	does(t, s.Turn(), api.OK, "Turn")
	m, _ = m.turn(m.state)
	keeps(t, s, d, m, "the last generation")
	for i := range 10 {
		stays(t, s, d, m, api.ErrFull, "Turn", s.Turn)
		does(t, s.Do(list(boot(i+1))), api.OK, "Do")
		m, _ = m.do(list(boot(i + 1)))
		keeps(t, s, d, m, "a record")
	}
	stays(t, s, d, m, api.ErrFull, "Turn", s.Turn)
	stays(t, s, d, m, api.ErrFull, "Do", func() api.Errno { return s.Do(list(boot(11))) })
	stays(t, s, d, m, api.ErrOld, "Do of what is old", func() api.Errno { return s.Do(list(boot(10))) })
}

// calls are what may be asked of a store that was refused by the disk: Do that is committed, or turned to, and Turn.
var calls = []struct {
	what  string
	room  bool
	call  func(*Store) api.Errno
	model func(model) (model, api.Errno)
}{
	{"Do", true, func(s *Store) api.Errno { return s.Do(more) }, func(m model) (model, api.Errno) { return m.do(more) }},
	{"Do that turns", false, func(s *Store) api.Errno { return s.Do(more) }, func(m model) (model, api.Errno) { return m.do(more) }},
	{"Turn", true, (*Store).Turn, func(m model) (model, api.Errno) { return m.turn(m.state) }},
	{"Turn, of a full log", false, (*Store).Turn, func(m model) (model, api.Errno) { return m.turn(m.state) }},
}

// more are changes whose record has two pages.
var more = append(fulls(20, 6, 9), epoch(7, 1), upto(99))

// ready is a disk of sixteen sectors with something on it, and its model; the log has room for two pages more, or for none.
func ready(t *testing.T, room bool) (*disk.Disk, model) {
	t.Helper()
	d, m := diskOf(16), fresh(16)
	s := opened(t, d, "new")
	does(t, s.Do(list(ofLsa(told(3, 7, 4)), boot(1))), api.OK, "Do")
	m, _ = m.do(list(ofLsa(told(3, 7, 4)), boot(1)))
	does(t, s.Turn(), api.OK, "Turn")
	m, _ = m.turn(m.state)
	for i := 2; m.free() > 2 || !room && m.free() > 1; i++ {
		does(t, s.Do(list(boot(i))), api.OK, "Do")
		m, _ = m.do(list(boot(i)))
	}
	keeps(t, s, d, m, "ready")
	return d, m
}

// St1: with the disk's error a store is broken, and tells it; then it tells ErrState, ahead of all else, also when the disk lives again. What it has is as it was.
func TestBroken(t *testing.T) {
	for _, c := range calls {
		start, m := ready(t, c.room)
		for acts := range 2 {
			d := start.Clone()
			s := opened(t, d, c.what)
			d.Arm(acts)
			does(t, c.call(s), api.ErrDead, c.what)
			for range 2 {
				for k, l := range append(append(wrong(), older()...), more, list(boot(99))) {
					does(t, s.Do(l), api.ErrState, fmt.Sprint(c.what, ", broken, Do of list ", k))
				}
				does(t, s.Turn(), api.ErrState, c.what+", broken, Turn")
				if !s.Broken() || s.Gen() != m.gen || !equal(s.State(), m.state) {
					t.Errorf("%s: broken %v, generation %d, %v", c.what, s.Broken(), s.Gen(), s.State())
				}
				d.Crash(nil)
			}
			if len(d.Waits()) != 0 {
				t.Errorf("%s: a broken store writes", c.what)
			}
			keeps(t, opened(t, d, c.what), d, m, c.what+", behind it")
		}
	}
}

// St1: of a disk that died of another's act a store breaks at its next one; what is refused ahead of that does not break it.
func TestDeadBetween(t *testing.T) {
	for _, c := range calls {
		d, m := ready(t, c.room)
		s := opened(t, d, c.what)
		d.Arm(0)
		d.Flush()
		does(t, s.Do(nil), api.ErrArg, "Do of nothing")
		does(t, s.Do(list(boot(1))), api.ErrOld, "Do of what is old")
		tells(t, s, m, c.what)
		does(t, c.call(s), api.ErrDead, c.what)
		does(t, c.call(s), api.ErrState, c.what+", again")
		does(t, s.Do(nil), api.ErrState, "Do of nothing, broken")
	}
}

// R1: a store that Open did not give is broken, has nothing, and answers ErrState.
func TestNobody(t *testing.T) {
	for _, s := range []*Store{nil, {}} {
		for _, l := range append(append(wrong(), older()...), list(boot(1))) {
			does(t, s.Do(l), api.ErrState, "Do of nobody")
		}
		does(t, s.Turn(), api.ErrState, "Turn of nobody")
		x := s.State()
		if x.Db != nil || x.Epochs != nil || x.Upto != 0 || x.Boot != 0 || s.Gen() != 0 || !s.Broken() {
			t.Errorf("nobody: %v, generation %d, broken %v", x, s.Gen(), s.Broken())
		}
	}
}

// R3: what is handed in is not written to, nor kept; what is answered is new memory.
func TestNewMemory(t *testing.T) {
	d, m := diskOf(40), fresh(40)
	s := opened(t, d, "new")
	handed := func() []api.Change {
		return list(ofLsa(told(3, 7, 4, 5)), ofLsa(told(4, 7, 3)), epoch(4, 1), epoch(5, 2))
	}
	l := handed()
	does(t, s.Do(l), api.OK, "Do")
	if !slices.EqualFunc(l, handed(), func(a, b api.Change) bool {
		return a.Kind == b.Kind && a.N == b.N && a.Of == b.Of && equalLsa(a.Lsa, b.Lsa)
	}) {
		t.Error("Do writes to what it is handed")
	}
	m, _ = m.do(handed())
	spoil := func(x api.State) {
		for i := range x.Db {
			for k := range x.Db[i].Links {
				x.Db[i].Links[k] = api.Link{}
			}
			x.Db[i] = api.Lsa{}
		}
		clear(x.Epochs)
		x.Db, x.Epochs = x.Db[:cap(x.Db)], x.Epochs[:cap(x.Epochs)]
		clear(x.Db)
		clear(x.Epochs)
	}
	for i := range l {
		clear(l[i].Lsa.Links)
		l[i] = api.Change{}
	}
	keeps(t, s, d, m, "what was handed in is spoilt")
	spoil(s.State())
	keeps(t, s, d, m, "what was answered is spoilt")
	s = opened(t, d, "again")
	spoil(s.State())
	keeps(t, s, d, m, "what was answered is spoilt, opened again")
	does(t, s.Turn(), api.OK, "Turn")
	m, _ = m.turn(m.state)
	keeps(t, s, d, m, "turned")
}

// torn are three ways in which a sector that waits may be found: as it was, as it was written, and torn so that it is no page.
var torn = []api.Tear{{Kind: api.TearLost}, {Kind: api.TearKept}, {Kind: api.TearTorn, B: bytes.Repeat([]byte{0xA5}, 300)}}

// crashes calls with each clone of a disk, each crashed by other ones of all lists of tears.
func crashes(d *disk.Disk, found func(c *disk.Disk, what string)) {
	n := len(d.Waits())
	all := 1
	for range n {
		all *= len(torn)
	}
	for k := range all {
		var tears []api.Tear
		what := "tears"
		for i := k; len(tears) < n; i /= len(torn) {
			tears = append(tears, torn[i%len(torn)])
			what += fmt.Sprint(" ", i%len(torn))
		}
		c := d.Clone()
		c.Crash(tears)
		found(c, what)
	}
}

// either fails if a disk opens as neither of two models is, or as another one when it is opened again; it answers the store and its model.
func either(t *testing.T, d *disk.Disk, a, b model, what string) (*Store, model) {
	t.Helper()
	m, s := a, opened(t, d, what)
	if s.Gen() != a.gen || !equal(s.State(), a.state) {
		m = b
	}
	keeps(t, s, d, m, what)
	s = opened(t, d, what+", again")
	keeps(t, s, d, m, what+", again")
	return s, m
}

// St2: behind a crash at any act of a call, a store opens with what was done, or with that and what was refused by ErrDead; and again, behind a second one.
func TestCrash(t *testing.T) {
	for _, c := range calls {
		start, m := ready(t, c.room)
		is, e := c.model(m)
		does(t, e, api.OK, "the model")
		for acts := 0; ; acts++ {
			d := start.Clone()
			s := opened(t, d, c.what)
			d.Arm(acts)
			e := c.call(s)
			if e == api.OK {
				crashes(d, func(x *disk.Disk, what string) { keeps(t, opened(t, x, what), x, is, c.what+", done") })
				break
			}
			does(t, e, api.ErrDead, c.what)
			crashes(d, func(x *disk.Disk, what string) {
				what = fmt.Sprint(c.what, ", ", acts, " acts, ", what)
				_, k := either(t, x, m, is, what)
				for _, again := range calls {
					crashAgain(t, x, k, again.call, again.model, what+", then "+again.what)
				}
			})
		}
	}
}

// crashAgain fails if a disk that is as the model is opens otherwise than it may, behind a crash at any act of a call.
func crashAgain(t *testing.T, start *disk.Disk, m model, call func(*Store) api.Errno, next func(model) (model, api.Errno), what string) {
	t.Helper()
	is, want := next(m)
	for acts := 0; ; acts++ {
		d := start.Clone()
		s := opened(t, d, what)
		d.Arm(acts)
		e := call(s)
		if e != api.ErrDead {
			does(t, e, want, what)
			d.Crash(nil)
			keeps(t, opened(t, d, what), d, is, what)
			return
		}
		crashes(d, func(x *disk.Disk, more string) {
			either(t, x, m, is, fmt.Sprint(what, ", ", acts, " acts, ", more))
		})
	}
}

// anyChange is a change, by chance: most may be, and are not old.
func anyChange(r *rand.Rand, s api.State) api.Change {
	switch r.Intn(8) {
	case 0:
		return upto(s.Upto + r.Intn(9))
	case 1:
		return boot(s.Boot + r.Intn(9))
	case 2:
		return epoch(r.Intn(66), 1+r.Intn(1000))
	}
	l := full(1+r.Intn(64), 1+r.Intn(100000))
	l.Links = l.Links[:r.Intn(17)]
	return ofLsa(l)
}

// anyChanges are changes, by chance; of few nodes, so that a state does not soon have no room.
func anyChanges(r *rand.Rand, s api.State, nodes int) []api.Change {
	var l []api.Change
	for range 1 + r.Intn(5)*r.Intn(9) {
		c := anyChange(r, s)
		if c.Kind == api.ChangeLsa {
			c.Lsa = full(1+r.Intn(nodes), c.Lsa.Seq)
		}
		l = append(l, c)
	}
	return slices.DeleteFunc(l, func(c api.Change) bool {
		is, old := turned(s, c)
		if !old && mayChange(c) {
			s = is
		}
		// Some that are refused stay.
		return (old || !mayChange(c)) && r.Intn(50) > 0
	})
}

// chance is a tear, by chance, that the check tells: the sector is as it was, as it was written, or no page.
func chance(r *rand.Rand) api.Tear {
	switch r.Intn(5) {
	case 0, 1:
		return api.Tear{Kind: api.TearLost}
	case 2, 3:
		return api.Tear{Kind: api.TearKept}
	}
	return api.Tear{Kind: api.TearTorn, B: append([]byte{0}, noise(r.Intn(512))...)}
}

// St1, St2: whatever is done, and wherever it crashes, a store answers as the chapter words it, and its disk opens with all that was answered with OK, and with all or nothing of what was refused by ErrDead.
func TestAny(t *testing.T) {
	r := rand.New(rand.NewSource(12))
	answers := map[api.Errno]int{}
	for try := range 30 {
		n := 6 + r.Intn(50)
		d, m := diskOf(n), fresh(n)
		s := opened(t, d, "new")
		for i := range 120 {
			what := fmt.Sprint("try ", try, ", step ", i)
			// Of some disks a slot has room for all nodes' Lsas, of others it has not.
			l := anyChanges(r, m.state, min(64, n+try%8*n/16))
			call, next := func() api.Errno { return s.Do(l) }, func() (model, api.Errno) { return m.do(l) }
			if r.Intn(9) == 0 {
				call, next = s.Turn, func() (model, api.Errno) { return m.turn(m.state) }
			}
			if r.Intn(3) == 0 {
				d.Arm(r.Intn(6))
			}
			is, want := next()
			e := call()
			answers[e]++
			if e == api.ErrDead {
				if want != api.OK {
					t.Fatalf("%s: an act of what is refused with %d", what, want)
				}
				s, m = either(t, crashed(r, d), m, is, what)
				continue
			}
			does(t, e, want, what)
			m = is
			if d.Arm(-1); r.Intn(4) == 0 {
				s = opened(t, crashed(r, d), what)
			}
			keeps(t, s, d, m, what)
		}
	}
	if answers[api.OK] < 1000 || answers[api.ErrDead] < 200 || answers[api.ErrFull] < 200 || answers[api.ErrArg] < 50 || answers[api.ErrOld] < 50 {
		t.Errorf("%v: the steps are too much alike", answers)
	}
}

// crashed is a disk behind a crash, by chance.
func crashed(r *rand.Rand, d *disk.Disk) *disk.Disk {
	var tears []api.Tear
	for range d.Waits() {
		tears = append(tears, chance(r))
	}
	d.Crash(tears)
	return d
}

// R4: what is answered hangs on the arguments, the calls ahead and the disk alone.
func TestAgain(t *testing.T) {
	run := func() [][]byte {
		r := rand.New(rand.NewSource(4))
		d := diskOf(30)
		s := opened(t, d, "new")
		for range 100 {
			s.Do(anyChanges(r, s.State(), 20))
		}
		return image(t, d)
	}
	if !same(run(), run()) {
		t.Error("the same calls make another disk")
	}
}
