package wal

import (
	"bytes"
	"encoding/binary"
	"fmt"
	"hash/crc32"
	"math/rand"
	"slices"
	"testing"

	"waymark/api"
	"waymark/disk"
)

// laid is a page's sector as the document words it, of any numbers, whether a page may have them or not.
func laid(p api.Page) []byte {
	s := make([]byte, 512)
	copy(s, "WAY")
	s[3] = byte(p.Kind)
	binary.BigEndian.PutUint32(s[4:], uint32(p.Gen))
	binary.BigEndian.PutUint32(s[8:], uint32(p.Mark))
	binary.BigEndian.PutUint32(s[12:], uint32(p.Index))
	s[16], s[17] = byte(p.Part), byte(p.Parts)
	binary.BigEndian.PutUint16(s[18:], uint16(len(p.B)))
	copy(s[20:508], p.B)
	binary.BigEndian.PutUint32(s[508:], crc32.ChecksumIEEE(s[:508]))
	return s
}

// seen is, as the document words it, the page whose sector this is, if there is one.
func seen(s []byte) (api.Page, bool) {
	p := api.Page{
		Kind:  int(s[3]),
		Gen:   int(binary.BigEndian.Uint32(s[4:])),
		Mark:  int(binary.BigEndian.Uint32(s[8:])),
		Index: int(binary.BigEndian.Uint32(s[12:])),
		Part:  int(s[16]),
		Parts: int(s[17]),
	}
	n := int(binary.BigEndian.Uint16(s[18:]))
	if p.Kind < 1 || p.Kind > 9 || max(p.Gen, p.Mark, p.Index) > 1<<31 || p.Parts < 1 || p.Parts > 16 || p.Part >= p.Parts || n > 488 {
		return api.Page{}, false
	}
	p.B = s[20 : 20+n]
	if !bytes.Equal(laid(p), s) {
		return api.Page{}, false
	}
	return p, true
}

// needs is how many pages n bytes need, told by taking a page's room from them as long as there are more.
func needs(n int) int {
	pages := 1
	for n > 488 {
		n -= 488
		pages++
	}
	return pages
}

// of are the sectors of a record as the document words it, whose pages are such as p is, from p's place on.
func of(p api.Page, b []byte) [][]byte {
	l := make([][]byte, needs(len(b)))
	first := p.Index
	for i := range l {
		p.Index, p.Part, p.Parts = first+i, i, len(l)
		p.B = b[488*i : min(488*i+488, len(b))]
		l[i] = laid(p)
	}
	return l
}

// baseOf and logOf are the sectors of a base, and of a record of the log, with mark 1.
func baseOf(gen int, b []byte) [][]byte { return of(api.Page{Kind: 1, Gen: gen, Mark: 1}, b) }
func logOf(gen, place int, b []byte) [][]byte {
	return of(api.Page{Kind: 2, Gen: gen, Mark: 1, Index: place}, b)
}

// noise are n bytes, the same in every run.
func noise(n int) []byte {
	b := make([]byte, n)
	rand.New(rand.NewSource(int64(n))).Read(b)
	return b
}

// parted is, as the document words it, how many sectors each of the slots of a disk of n sectors has.
func parted(n int) int { return min(n/4, 16) }

// diskOf is a disk of n sectors.
func diskOf(n int) *disk.Disk {
	d, e := disk.New(n)
	if e != api.OK {
		panic(fmt.Sprint("no disk of ", n))
	}
	return d
}

// put lets a disk have sectors from one on, safely.
func put(d *disk.Disk, from int, l ...[]byte) *disk.Disk {
	for i, s := range l {
		if d.Write(from+i, s) != api.OK {
			panic("the disk does not take what a test lays out")
		}
	}
	d.Flush()
	return d
}

// image are all sectors of a disk.
func image(t *testing.T, d *disk.Disk) [][]byte {
	t.Helper()
	l := make([][]byte, d.Size())
	for i := range l {
		s, e := d.Read(i)
		if e != api.OK {
			t.Fatalf("sector %d: %d", i, e)
		}
		l[i] = s
	}
	return l
}

// safe are all sectors of a disk that lives, as a crash would leave those that wait: lost.
func safe(t *testing.T, d *disk.Disk) [][]byte {
	t.Helper()
	c := d.Clone()
	c.Crash(nil)
	return image(t, c)
}

// same tells whether lists have the same bytes.
func same(a, b [][]byte) bool { return slices.EqualFunc(a, b, bytes.Equal) }

// kept is what a log keeps: its base, its records, and of which generation they are.
type kept struct {
	gen     int
	base    []byte
	records [][]byte
}

// places is how many places of the log the records take.
func (k kept) places() int {
	n := 0
	for _, b := range k.records {
		n += needs(len(b))
	}
	return n
}

// with is what is kept with a record more.
func (k kept) with(b []byte) kept {
	return kept{k.gen, k.base, append(slices.Clone(k.records), b)}
}

// like tells whether two keep the same.
func (k kept) like(o kept) bool {
	return k.gen == o.gen && bytes.Equal(k.base, o.base) && same(k.records, o.records)
}

func (k kept) String() string {
	s := fmt.Sprint("generation ", k.gen, ", a base of ", len(k.base), ", records of")
	for _, b := range k.records {
		s += fmt.Sprint(" ", len(b))
	}
	return s
}

// opened opens a disk, which must not be refused.
func opened(t *testing.T, d *disk.Disk, what string) (*Wal, kept) {
	t.Helper()
	w, base, l, e := Open(d)
	if e != api.OK || w == nil {
		t.Fatalf("%s: Open = %d", what, e)
	}
	k := kept{w.Gen(), base, l}
	slots := parted(d.Size())
	if free := d.Size() - 2*slots - k.places(); w.Free() != free || w.Room() != slots || w.Broken() {
		t.Fatalf("%s: Free %d, Room %d, Broken %v, want %d, %d", what, w.Free(), w.Room(), w.Broken(), free, slots)
	}
	return w, k
}

// keeps fails if a disk opens with something else; it answers its wal.
func keeps(t *testing.T, d *disk.Disk, want kept, what string) *Wal {
	t.Helper()
	w, k := opened(t, d, what)
	if !k.like(want) {
		t.Errorf("%s: opens with %v, want %v", what, k, want)
	}
	return w
}

// refused fails if a disk opens, if another error is told, if something is told beside it, or the disk is turned.
func refused(t *testing.T, d *disk.Disk, want api.Errno, what string) {
	t.Helper()
	dead := d.Dead()
	c := d.Clone()
	w, base, l, e := Open(d)
	if e != want || w != nil || base != nil || l != nil {
		t.Errorf("%s: Open = %v, %d bytes, %d records, %d, want %d", what, w, len(base), len(l), e, want)
	}
	if d.Dead() != dead {
		t.Errorf("%s: Open turns the disk: dead %v", what, d.Dead())
	}
	if c != nil && (!slices.Equal(d.Waits(), c.Waits()) || !dead && !same(image(t, d), image(t, c))) {
		t.Errorf("%s: Open writes", what)
	}
}

// does fails if an error is another one.
func does(t *testing.T, got, want api.Errno, what string) {
	t.Helper()
	if got != want {
		t.Errorf("%s = %d, want %d", what, got, want)
	}
}

// Wa1: what is no disk, or has no plot, is ErrArg, also if it is dead, or full of marks.
func TestOpenArg(t *testing.T) {
	refused(t, nil, api.ErrArg, "no disk")
	refused(t, &disk.Disk{}, api.ErrArg, "a zero disk")
	for n := 1; n < 6; n++ {
		refused(t, diskOf(n), api.ErrArg, fmt.Sprint(n, " sectors"))
		d := put(diskOf(n), 0, laid(api.Page{Kind: 1, Gen: 1, Mark: 1 << 31, Parts: 1}))
		refused(t, d, api.ErrArg, fmt.Sprint(n, " sectors, the mark is the greatest one"))
		d.Arm(0)
		d.Flush()
		refused(t, d, api.ErrArg, fmt.Sprint(n, " sectors, dead"))
	}
}

// Wa1: a dead disk is ErrDead, whatever it has.
func TestOpenDead(t *testing.T) {
	for what, d := range map[string]*disk.Disk{
		"new":     diskOf(20),
		"full":    put(diskOf(20), 0, laid(api.Page{Kind: 1, Gen: 2, Mark: 1 << 31, Parts: 1})),
		"corrupt": put(diskOf(20), 0, noise(512)),
		"good":    put(diskOf(20), 0, baseOf(2, nil)...),
	} {
		d.Arm(0)
		d.Flush()
		refused(t, d, api.ErrDead, what)
		refused(t, d, api.ErrDead, what+", again")
	}
}

// Wa1: ErrFull, if some page, of any kind, at any place, has the greatest mark; ahead of ErrCorrupt, and of what a new disk is given.
func TestOpenFull(t *testing.T) {
	for i := range 20 {
		for kind := 1; kind <= 9; kind++ {
			p := api.Page{Kind: kind, Gen: 7, Mark: 1 << 31, Index: 3, Part: 1, Parts: 2}
			what := fmt.Sprint("kind ", kind, " at ", i)
			refused(t, put(diskOf(20), i, laid(p)), api.ErrFull, what)
			d := put(diskOf(20), 5, baseOf(1, nil)...)
			refused(t, put(d, i, laid(p)), api.ErrFull, what+", beside a base")
		}
	}
	// A sector that is no page has no mark.
	s := laid(api.Page{Kind: 1, Gen: 1, Mark: 1 << 31, Parts: 1})
	s[100] ^= 1
	keeps(t, put(diskOf(20), 6, s), kept{gen: 1}, "a page that is spoilt")
}

// Wa1: the mark is one more than the greatest one of all sectors, up to the greatest of all.
func TestOpenMark(t *testing.T) {
	for _, mark := range []int{0, 1, 2, 255, 256, 1<<31 - 2, 1<<31 - 1} {
		for _, i := range []int{0, 4, 6, 9, 10, 19} {
			d := put(diskOf(20), 5, of(api.Page{Kind: 1, Gen: 1}, nil)...)
			put(d, i, laid(api.Page{Kind: 9, Gen: 8, Mark: mark, Index: 77, Parts: 1}))
			if i == 10 {
				// Another log page there would end the log; the first record goes there.
				put(d, 10, make([]byte, 512))
				put(d, 11, laid(api.Page{Kind: 2, Gen: 9, Mark: mark, Index: 1, Parts: 1}))
			}
			w := keeps(t, d, kept{gen: 1}, fmt.Sprint("mark ", mark, " at ", i))
			for range 2 {
				does(t, w.Commit([]byte{1}), api.OK, "Commit")
			}
			does(t, w.Turn([]byte{2}), api.OK, "Turn")
			does(t, w.Commit([]byte{3}), api.OK, "Commit behind Turn")
			l := image(t, d)
			for _, k := range []int{0, 10, 11} {
				if p, ok := seen(l[k]); !ok || p.Mark != mark+1 {
					t.Errorf("mark %d at %d: sector %d is written with %d", mark, i, k, p.Mark)
				}
			}
		}
	}
}

// plots are how many sectors disks have, and how many of them a slot, and the log.
var plots = [][3]int{
	{6, 1, 4}, {7, 1, 5}, {8, 2, 4}, {11, 2, 7}, {12, 3, 6}, {20, 5, 10}, {60, 15, 30}, {63, 15, 33},
	{64, 16, 32}, {65, 16, 33}, {68, 16, 36}, {100, 16, 68}, {1023, 16, 991}, {1024, 16, 992},
}

// Wa1: a new disk is given the base of generation 1, without bytes, at its slot's first sector, by two acts; the chapter's example is one of these.
func TestOpenNew(t *testing.T) {
	for _, p := range plots {
		d := diskOf(p[0])
		d.Arm(2)
		w, base, l, e := Open(d)
		if e != api.OK || len(base) != 0 || len(l) != 0 {
			t.Fatalf("%d sectors: %d bytes, %d records, %d", p[0], len(base), len(l), e)
		}
		if w.Gen() != 1 || w.Free() != p[2] || w.Room() != p[1] || w.Broken() {
			t.Errorf("%d sectors: Gen %d, Free %d, Room %d, Broken %v", p[0], w.Gen(), w.Free(), w.Room(), w.Broken())
		}
		want := slices.Repeat([][]byte{make([]byte, 512)}, p[0])
		want[p[1]] = laid(api.Page{Kind: 1, Gen: 1, Mark: 1, Parts: 1})
		if !same(safe(t, d), want) || len(d.Waits()) != 0 {
			t.Errorf("%d sectors: others are written than the first base's, or it is not safe", p[0])
		}
		if d.Flush() != api.ErrDead {
			t.Errorf("%d sectors: a new disk is opened by less than two acts", p[0])
		}
	}
}

// Wa1: at known bytes, what a new disk is given.
func TestOpenKnown(t *testing.T) {
	d := diskOf(6)
	opened(t, d, "new")
	want := append([]byte("WAY\x01\x00\x00\x00\x01\x00\x00\x00\x01\x00\x00\x00\x00\x00\x01\x00\x00"), make([]byte, 488)...)
	want = binary.BigEndian.AppendUint32(want, crc32.ChecksumIEEE(want))
	if s, _ := d.Read(1); !bytes.Equal(s, want) {
		t.Errorf("the first base is %x", s)
	}
}

// Wa1: if the disk dies of it, a new disk is refused, with the disk's error.
func TestOpenNewDies(t *testing.T) {
	for acts := range 2 {
		d := diskOf(20)
		d.Arm(acts)
		if w, base, l, e := Open(d); e != api.ErrDead || w != nil || base != nil || l != nil || !d.Dead() {
			t.Errorf("Open, %d acts: %v, %d bytes, %d records, %d", acts, w, len(base), len(l), e)
		}
		refused(t, d, api.ErrDead, "dead of it")
	}
}

// rubbish are sectors in which there is no whole base of generation 1's slot.
func rubbish() [][]byte {
	torn := laid(api.Page{Kind: 1, Gen: 1, Mark: 1, Parts: 1})
	clear(torn[256:])
	last := make([]byte, 512)
	last[511] = 1
	return [][]byte{
		noise(512), bytes.Repeat([]byte{255}, 512), torn, last, append([]byte{1}, make([]byte, 511)...),
		laid(api.Page{Kind: 1, Gen: 1, Mark: 6, Parts: 2, B: noise(488)}), laid(api.Page{Kind: 1, Gen: 1, Mark: 7, Index: 1, Part: 1, Parts: 2}),
		logOf(1, 0, nil)[0], laid(api.Page{Kind: 1, Gen: 3, Mark: 5, Index: 1, Parts: 1}), laid(api.Page{Kind: 3, Gen: 1, Parts: 1}),
	}
}

// Wa1: what stands in generation 1's slot alone does not matter to a new disk: the first base is written over it.
func TestOpenNewRubbish(t *testing.T) {
	for k, s := range rubbish() {
		for i := 5; i < 10; i++ {
			d := put(diskOf(20), i, s)
			want := image(t, d)
			p, _ := seen(s)
			want[5] = laid(api.Page{Kind: 1, Gen: 1, Mark: p.Mark + 1, Parts: 1})
			keeps(t, d, kept{gen: 1}, fmt.Sprint("rubbish ", k, " at ", i))
			if !same(safe(t, d), want) {
				t.Errorf("rubbish %d at %d: others are written", k, i)
			}
			keeps(t, d, kept{gen: 1}, fmt.Sprint("rubbish ", k, " at ", i, ", again"))
		}
		keeps(t, put(diskOf(20), 5, slices.Repeat([][]byte{s}, 5)...), kept{gen: 1}, fmt.Sprint("a slot of rubbish ", k))
	}
}

// Wa1: without a whole slot, ErrCorrupt if some sector of the first slot or of the log is not blank; nothing is written.
func TestOpenCorrupt(t *testing.T) {
	for _, n := range []int{6, 20, 64, 100, 1024} {
		slots := parted(n)
		for k, s := range rubbish() {
			for _, i := range []int{0, slots - 1, 2 * slots, 2*slots + 1, n - 2, n - 1} {
				d := put(diskOf(n), i, s)
				d.Arm(0)
				refused(t, d, api.ErrCorrupt, fmt.Sprint(n, " sectors, rubbish ", k, " at ", i))
				// A whole base elsewhere is no slot's.
				if slots > 1 {
					refused(t, put(put(diskOf(n), slots+1, baseOf(1, nil)...), i, s), api.ErrCorrupt, "a base at a slot's second sector")
				}
			}
		}
	}
	for i := range 20 {
		d := put(diskOf(20), i, noise(512))
		if i < 5 || i >= 10 {
			refused(t, d, api.ErrCorrupt, fmt.Sprint("sector ", i, " is not blank"))
		} else {
			keeps(t, d, kept{gen: 1}, fmt.Sprint("sector ", i, " is not blank"))
		}
	}
}

// P2: once both slots are spoilt, it is ErrCorrupt, whatever the log has.
func TestOpenSpoilt(t *testing.T) {
	for first := range 5 {
		for second := range 5 {
			d := put(put(diskOf(20), 0, baseOf(2, noise(2440))...), 5, baseOf(3, noise(2440))...)
			put(d, 10, logOf(3, 0, noise(20))...)
			keeps(t, d, kept{3, noise(2440), [][]byte{noise(20)}}, "whole")
			put(d, 5+second, noise(512))
			keeps(t, d, kept{2, noise(2440), nil}, "one is spoilt")
			put(d, first, noise(512))
			refused(t, d, api.ErrCorrupt, fmt.Sprint("both are spoilt, at ", first, " and ", second))
		}
	}
}

// Wa1: of a disk that is not new nothing is written.
func TestOpenWritesNothing(t *testing.T) {
	for _, n := range []int{6, 20, 100} {
		for _, gen := range []int{0, 1, 2, 3, 1 << 31} {
			d := put(diskOf(n), gen%2*parted(n), baseOf(gen, noise(9))...)
			put(d, 2*parted(n), logOf(gen, 0, noise(600))...)
			was := image(t, d)
			d.Arm(0)
			keeps(t, d, kept{gen, noise(9), [][]byte{noise(600)}}, fmt.Sprint(n, " sectors, generation ", gen))
			keeps(t, d, kept{gen, noise(9), [][]byte{noise(600)}}, fmt.Sprint(n, " sectors, generation ", gen, ", again"))
			if d.Dead() || len(d.Waits()) != 0 || !same(image(t, d), was) {
				t.Errorf("%d sectors, generation %d: Open writes", n, gen)
			}
		}
	}
}

// Wa1: the base is that of the better slot, and the records are those of its generation.
func TestOpenBetter(t *testing.T) {
	gens := []int{0, 1, 2, 3, 4, 255, 256, 1<<31 - 1, 1 << 31}
	for _, a := range gens {
		for _, b := range gens {
			d := put(put(diskOf(20), 0, baseOf(a, noise(1000))...), 5, baseOf(b, noise(700))...)
			put(d, 10, logOf(b, 0, noise(30))...)
			want := kept{gen: a, base: noise(1000)}
			if b > a {
				want = kept{gen: b, base: noise(700)}
			}
			if b >= a {
				want.records = [][]byte{noise(30)}
			}
			what := fmt.Sprint("generations ", a, " and ", b)
			keeps(t, d, want, what)

			put(d, 1, make([]byte, 512))
			keeps(t, d, kept{b, noise(700), [][]byte{noise(30)}}, what+", the first one is not whole")
			d = put(put(diskOf(20), 0, baseOf(a, noise(1000))...), 5, baseOf(b, noise(700))[:1]...)
			keeps(t, d, kept{gen: a, base: noise(1000)}, what+", the second one is not whole")
		}
	}
}

// Wa1: the log's records, of each length's edges, up to the log's end.
func TestOpenLog(t *testing.T) {
	lengths := []int{0, 1, 487, 488, 489, 976, 977, 3904, 3905, 7320, 7321, 7808}
	for _, n := range []int{20, 64, 100, 1024} {
		d := put(diskOf(n), parted(n), baseOf(1, noise(5))...)
		want := kept{gen: 1, base: noise(5)}
		for i := 0; want.places() < n-2*parted(n); i++ {
			b := noise(lengths[i*7%len(lengths)])
			if want.places()+needs(len(b)) > n-2*parted(n) {
				b = noise(100)
			}
			put(d, 2*parted(n)+want.places(), logOf(1, want.places(), b)...)
			want = want.with(b)
			if n < 1024 || i%10 == 0 || want.places() > 980 {
				keeps(t, d, want, fmt.Sprint(n, " sectors, ", i, " records"))
			}
		}
		if w := keeps(t, d, want, "full"); w.Free() != 0 {
			t.Errorf("%d sectors, all written: Free = %d", n, w.Free())
		}
	}
}

// Wa1: a record that goes on behind the log's end is none.
func TestOpenLogEnd(t *testing.T) {
	for parts := 2; parts <= 11; parts++ {
		d := put(diskOf(20), 5, baseOf(1, nil)...)
		b := noise(488*parts - 7)
		// Its first pages stand at the last places.
		at := 11 - parts
		want := kept{gen: 1}
		for i := range at {
			put(d, 10+i, logOf(1, i, []byte{byte(i)})...)
			want = want.with([]byte{byte(i)})
		}
		put(d, 10+at, logOf(1, at, b)[:parts-1]...)
		keeps(t, d, want, fmt.Sprint("one page of ", parts, " is behind the end"))
	}
}

// Wa1: records have marks of their own, which need not rise.
func TestOpenLogMarks(t *testing.T) {
	d := put(diskOf(20), 5, baseOf(1, nil)...)
	want := kept{gen: 1}
	for i, mark := range []int{3, 3, 9, 2, 0, 1<<31 - 1} {
		put(d, 10+i, of(api.Page{Kind: 2, Gen: 1, Mark: mark, Index: i}, []byte{byte(i)})...)
		want = want.with([]byte{byte(i)})
	}
	keeps(t, d, want, "marks")
}

// strange are sectors none of which is that of a record of one page of generation 3's log at this place.
func strange(place int) [][]byte {
	l := [][]byte{make([]byte, 512), noise(512), baseOf(3, []byte{1})[0]}
	p := api.Page{Kind: 2, Gen: 3, Mark: 1, Index: place, Parts: 1, B: []byte{1}}
	for _, q := range []api.Page{
		{Kind: 1}, {Kind: 3}, {Kind: 9}, {Kind: 10}, {Gen: 2}, {Gen: 4}, {Gen: 1 << 31}, {Gen: 1<<31 + 1}, {Mark: 1<<31 + 1},
		{Index: place + 1}, {Index: place + 2}, {Index: 1 << 31}, {Index: 1<<31 + 1}, {Parts: 2}, {Parts: 16}, {Parts: 17}, {Part: 1, Parts: 2},
		{B: noise(489)},
	} {
		o := p
		o.Kind, o.Gen, o.Mark = max(o.Kind, q.Kind), max(q.Gen, 3), max(q.Mark, 1)
		if q.Kind == 1 {
			o.Kind = 1
		}
		if q.Gen == 2 {
			o.Gen = 2
		}
		o.Index, o.Part, o.Parts = max(o.Index, q.Index), q.Part, max(o.Parts, q.Parts)
		if q.B != nil {
			o.B = q.B
		}
		l = append(l, laid(o))
	}
	if place > 0 {
		p.Index = place - 1
		l = append(l, laid(p))
		p.Index = 0
		l = append(l, laid(p))
	}
	for _, i := range []int{0, 3, 7, 11, 15, 16, 17, 19, 20, 21, 507, 508, 511} {
		spoilt := logOf(3, place, []byte{1})[0]
		spoilt[i] ^= 1
		l = append(l, spoilt)
	}
	return l
}

// Wa1: the log goes up to the first place at which there is no record of it, whatever stands behind.
func TestOpenLogStrange(t *testing.T) {
	for place := range 10 {
		for k, s := range strange(place) {
			d := put(diskOf(20), 5, baseOf(3, nil)...)
			want := kept{gen: 3}
			for i := range 10 {
				put(d, 10+i, logOf(3, i, []byte{byte(i)})...)
				if i < place {
					want = want.with([]byte{byte(i)})
				}
			}
			put(d, 10+place, s)
			keeps(t, d, want, fmt.Sprint("strange sector ", k, " at place ", place))
		}
	}
}

// Wa1: a record of several pages one of which is another one ends the log.
func TestOpenLogPart(t *testing.T) {
	b := noise(1300)
	for part := range 3 {
		for place := range 4 {
			l := slices.Concat(logOf(3, place, b), logOf(3, place+3, []byte{9}))
			others := slices.Concat(
				[][]byte{make([]byte, 512), noise(512)},
				of(api.Page{Kind: 2, Gen: 3, Mark: 2, Index: place}, b)[part:part+1],
				of(api.Page{Kind: 2, Gen: 3, Mark: 0, Index: place}, b)[part:part+1],
				of(api.Page{Kind: 2, Gen: 2, Mark: 1, Index: place}, b)[part:part+1],
				of(api.Page{Kind: 2, Gen: 4, Mark: 1, Index: place}, b)[part:part+1],
				of(api.Page{Kind: 1, Gen: 3, Mark: 1, Index: place}, b)[part:part+1],
				of(api.Page{Kind: 2, Gen: 3, Mark: 1, Index: place + 1}, b)[part:part+1],
				of(api.Page{Kind: 2, Gen: 3, Mark: 1, Index: place}, noise(1800))[part:part+1],
			)
			for k, s := range others {
				d := put(diskOf(20), 5, baseOf(3, nil)...)
				want := kept{gen: 3}
				for i := range place {
					put(d, 10+i, logOf(3, i, nil)...)
					want = want.with(nil)
				}
				put(d, 10+place, l...)
				keeps(t, d, want.with(b).with([]byte{9}), "whole")
				put(d, 10+place+part, s)
				keeps(t, d, want, fmt.Sprint("part ", part, " of three at ", place, " is other ", k))
			}
		}
	}
}

// worded is, as the document words it, what Open tells of these sectors, and the mark it writes with.
func worded(l [][]byte) (kept, int, api.Errno) {
	slots, mark, blank := parted(len(l)), 0, true
	for i, s := range l {
		if p, ok := seen(s); ok {
			mark = max(mark, p.Mark)
		}
		if i < slots || i >= 2*slots {
			blank = blank && bytes.Count(s, []byte{0}) == 512
		}
	}
	if mark == 1<<31 {
		return kept{}, 0, api.ErrFull
	}
	k, whole := kept{}, false
	for _, from := range []int{0, slots} {
		b, n := begins(l[from:from+slots], 1, 0)
		if p, _ := seen(l[from]); n > 0 && (!whole || p.Gen > k.gen) {
			k, whole = kept{gen: p.Gen, base: b}, true
		}
	}
	if !whole && !blank {
		return kept{}, 0, api.ErrCorrupt
	}
	if !whole {
		return kept{gen: 1}, mark + 1, api.OK
	}
	for at := 2 * slots; at < len(l); {
		b, n := begins(l[at:], 2, at-2*slots)
		if p, _ := seen(l[at]); n == 0 || p.Gen != k.gen {
			break
		}
		k.records = append(k.records, b)
		at += n
	}
	return k, mark + 1, api.OK
}

// begins is, as the document words it, the record of a kind that sectors begin with, at a place, and how many sectors it has.
func begins(l [][]byte, kind, place int) ([]byte, int) {
	first, ok := seen(l[0])
	if !ok || len(l) < first.Parts {
		return nil, 0
	}
	var b []byte
	for i, s := range l[:first.Parts] {
		p, ok := seen(s)
		ok = ok && p.Kind == kind && p.Gen == first.Gen && p.Mark == first.Mark && p.Index == place+i && p.Part == i && p.Parts == first.Parts
		if !ok || i < first.Parts-1 && len(p.B) != 488 || i > 0 && len(p.B) == 0 {
			return nil, 0
		}
		b = append(b, p.B...)
	}
	return b, first.Parts
}

// scattered is a disk with bases, records, and other sectors laid out by chance.
func scattered(r *rand.Rand) *disk.Disk {
	n := 6 + r.Intn(30)
	d, slots := diskOf(n), parted(n)
	for gen := range 2 {
		if size := r.Intn(488*slots + 1); r.Intn(4) > 0 {
			put(d, gen*slots, of(api.Page{Kind: 1, Gen: 2 + gen + r.Intn(2), Mark: r.Intn(3)}, noise(size))...)
		}
	}
	for place := 0; r.Intn(8) > 0; {
		l := of(api.Page{Kind: 2, Gen: 3, Mark: r.Intn(2), Index: place}, noise(r.Intn(4)*400))
		if place += len(l); 2*slots+place > n {
			break
		}
		put(d, 2*slots+place-len(l), l...)
	}
	for range r.Intn(3) {
		p := api.Page{Kind: 1 + r.Intn(2), Gen: 2 + r.Intn(3), Mark: r.Intn(2), Index: r.Intn(4), Parts: 1 + r.Intn(2)}
		p.Part = r.Intn(p.Parts)
		put(d, r.Intn(n), laid(p))
	}
	if r.Intn(3) == 0 {
		put(d, r.Intn(n), noise(512))
	}
	return d
}

// Wa1: Open tells what the document's words tell, of any sectors.
func TestOpenAny(t *testing.T) {
	r := rand.New(rand.NewSource(8))
	found := map[api.Errno]int{}
	records := 0
	for try := range 2000 {
		d := scattered(r)
		want, mark, e := worded(image(t, d))
		found[e]++
		what := fmt.Sprint("try ", try)
		if e != api.OK {
			refused(t, d, e, what)
			continue
		}
		w := keeps(t, d, want, what)
		records += len(want.records)
		if w.Free() == 0 {
			continue
		}
		does(t, w.Commit([]byte{1}), api.OK, what+": Commit")
		l := image(t, d)
		if got := l[len(l)-w.Free()-1]; !bytes.Equal(got, laid(api.Page{Kind: 2, Gen: want.gen, Mark: mark, Index: want.places(), Parts: 1, B: []byte{1}})) {
			t.Errorf("%s: Commit writes another page", what)
		}
		// Records that stood behind a place that had none may follow now.
		want, _, _ = worded(l)
		keeps(t, d, want, what+", again")
	}
	if found[api.OK] < 1000 || found[api.ErrCorrupt] < 100 || records < 500 {
		t.Errorf("%v, %d records: the tries are too much alike", found, records)
	}
}

// Wa2: Commit writes a record's pages behind the last one's, by an act for each, and flushes them.
func TestCommit(t *testing.T) {
	for _, n := range []int{64, 100, 1024} {
		d := diskOf(n)
		w, want := opened(t, d, "new")
		// Opened again its mark is one more.
		w, _ = opened(t, d, "again")
		l := image(t, d)
		for i, size := range []int{0, 1, 488, 489, 976, 977, 3000, 0, 7808} {
			b := noise(size)
			at, free := 32+want.places(), w.Free()
			if needs(size) > free {
				continue
			}
			copy(l[at:], of(api.Page{Kind: 2, Gen: 1, Mark: 2, Index: at - 32}, b))
			d.Arm(needs(size) + 1)
			does(t, w.Commit(b), api.OK, fmt.Sprint("Commit of ", size, " bytes"))
			want = want.with(b)
			if !same(safe(t, d), l) || len(d.Waits()) != 0 {
				t.Errorf("%d sectors, record %d, of %d bytes: others are written, or they are not safe", n, i, size)
			}
			if w.Free() != free-needs(size) || w.Gen() != 1 || w.Broken() || w.Room() != 16 {
				t.Errorf("%d sectors, record %d: Free %d of %d, Gen %d", n, i, w.Free(), free, w.Gen())
			}
			d.Arm(-1)
			keeps(t, d, want, fmt.Sprint(n, " sectors, record ", i))
		}
	}
}

// Wa2: at known bytes, what Commit and Turn write.
func TestCommitKnown(t *testing.T) {
	d := diskOf(6)
	w, _ := opened(t, d, "new")
	w.Commit([]byte("ab"))
	w.Turn([]byte("cde"))
	w.Commit(nil)
	w.Commit([]byte("f"))
	for i, head := range map[int]string{
		0: "WAY\x01\x00\x00\x00\x02\x00\x00\x00\x01\x00\x00\x00\x00\x00\x01\x00\x03cde",
		1: "WAY\x01\x00\x00\x00\x01\x00\x00\x00\x01\x00\x00\x00\x00\x00\x01\x00\x00",
		2: "WAY\x02\x00\x00\x00\x02\x00\x00\x00\x01\x00\x00\x00\x00\x00\x01\x00\x00",
		3: "WAY\x02\x00\x00\x00\x02\x00\x00\x00\x01\x00\x00\x00\x01\x00\x01\x00\x01f",
	} {
		want := append([]byte(head), make([]byte, 508-len(head))...)
		want = binary.BigEndian.AppendUint32(want, crc32.ChecksumIEEE(want))
		if s, _ := d.Read(i); !bytes.Equal(s, want) {
			t.Errorf("sector %d is %x", i, s)
		}
	}
}

// stays fails if a call is not refused with this error, or turns something.
func stays(t *testing.T, d *disk.Disk, w *Wal, want api.Errno, what string, call func() api.Errno) {
	t.Helper()
	gen, free, room, broken := w.Gen(), w.Free(), w.Room(), w.Broken()
	was := image(t, d)
	d.Arm(0)
	does(t, call(), want, what)
	if d.Dead() || len(d.Waits()) != 0 || !same(image(t, d), was) {
		t.Errorf("%s: the disk is turned", what)
	}
	if w.Gen() != gen || w.Free() != free || w.Room() != room || w.Broken() != broken {
		t.Errorf("%s: the wal is turned", what)
	}
	d.Arm(-1)
}

// Wa2: Commit is refused, ErrBig ahead of ErrFull, and nothing turns by it.
func TestCommitRefused(t *testing.T) {
	for _, n := range []int{6, 20, 64} {
		d := diskOf(n)
		w, want := opened(t, d, "new")
		log := n - 2*parted(n)
		for place := 0; place <= log; place++ {
			for _, size := range []int{7809, 7810, 8000, 65536, 1 << 20} {
				stays(t, d, w, api.ErrBig, fmt.Sprint("Commit of ", size, " bytes"), func() api.Errno { return w.Commit(make([]byte, size)) })
			}
			for size := 0; size <= 7808; size += 488 {
				for _, more := range []int{0, 1} {
					if needs(size+more) > log-place && size+more <= 7808 {
						stays(t, d, w, api.ErrFull, fmt.Sprint("Commit of ", size+more, " bytes at ", place), func() api.Errno { return w.Commit(noise(size + more)) })
					}
				}
			}
			// What just fits is taken, though more was refused.
			if rest := log - place; rest > 0 && rest <= 16 {
				c := d.Clone()
				other := keeps(t, c, want, "a clone")
				does(t, other.Commit(noise(488*rest)), api.OK, fmt.Sprint("Commit of all that is left, ", rest))
				keeps(t, c, want.with(noise(488*rest)), "all that was left")
			}
			if place < log {
				does(t, w.Commit([]byte{byte(place)}), api.OK, "Commit")
				want = want.with([]byte{byte(place)})
			}
		}
		keeps(t, d, want, "full")
	}
}

// Wa2: Turn writes the base, of one generation more, to its slot, by an act for each page, and flushes it; the log is empty then.
func TestTurn(t *testing.T) {
	for _, n := range []int{6, 20, 64, 1024} {
		d := diskOf(n)
		w, _ := opened(t, d, "new")
		slots := parted(n)
		l := image(t, d)
		for gen := 2; gen < 9; gen++ {
			b := noise((gen * 977) % (488*slots + 1))
			for i := range 3 {
				does(t, w.Commit([]byte{byte(gen + i)}), api.OK, "Commit")
				copy(l[2*slots+i:], logOf(gen-1, i, []byte{byte(gen + i)}))
			}
			copy(l[gen%2*slots:], baseOf(gen, b))
			d.Arm(needs(len(b)) + 1)
			does(t, w.Turn(b), api.OK, fmt.Sprint("Turn to ", gen))
			if w.Gen() != gen || w.Free() != n-2*slots || w.Room() != slots || w.Broken() {
				t.Errorf("%d sectors: Gen %d, Free %d, Room %d", n, w.Gen(), w.Free(), w.Room())
			}
			if !same(safe(t, d), l) || len(d.Waits()) != 0 {
				t.Errorf("%d sectors, generation %d: others are written, or they are not safe", n, gen)
			}
			d.Arm(-1)
			keeps(t, d, kept{gen: gen, base: b}, fmt.Sprint(n, " sectors, generation ", gen))
		}
	}
}

// Wa2: Turn goes to the slot of one generation more than the base's, wherever that one stands, from generation 0 on.
func TestTurnSlot(t *testing.T) {
	for _, gen := range []int{0, 1, 2, 3, 4, 255, 1<<31 - 2, 1<<31 - 1} {
		for _, from := range []int{0, 5} {
			d := put(diskOf(20), from, baseOf(gen, noise(800))...)
			w := keeps(t, d, kept{gen: gen, base: noise(800)}, "laid")
			does(t, w.Turn(noise(500)), api.OK, fmt.Sprint("Turn from ", gen))
			want := slices.Repeat([][]byte{make([]byte, 512)}, 20)
			copy(want[from:], baseOf(gen, noise(800)))
			copy(want[(gen+1)%2*5:], of(api.Page{Kind: 1, Gen: gen + 1, Mark: 2}, noise(500)))
			if !same(safe(t, d), want) {
				t.Errorf("Turn from %d at %d writes others", gen, from)
			}
			keeps(t, d, kept{gen: gen + 1, base: noise(500)}, "turned")
		}
	}
}

// Wa2: Turn is refused with ErrBig, if the base has more pages than a slot has sectors, or is no record; nothing turns by it.
func TestTurnBig(t *testing.T) {
	for _, n := range []int{6, 8, 20, 63, 64, 100, 1024} {
		d := diskOf(n)
		w, want := opened(t, d, "new")
		does(t, w.Commit([]byte{1}), api.OK, "Commit")
		want = want.with([]byte{1})
		most := 488 * parted(n)
		for _, size := range []int{most + 1, most + 488, most + 489, 7809, 8000, 65536} {
			stays(t, d, w, api.ErrBig, fmt.Sprint(n, " sectors, Turn of ", size), func() api.Errno { return w.Turn(make([]byte, size)) })
		}
		keeps(t, d, want, "refused")
		does(t, w.Turn(noise(most)), api.OK, "Turn of as much as a slot has")
		keeps(t, d, kept{gen: 2, base: noise(most)}, "turned")
	}
}

// Wa2: Turn is refused with ErrFull, if Gen is MaxMark, behind ErrBig; nothing turns by it, and records are taken.
func TestTurnFull(t *testing.T) {
	d := put(diskOf(20), 0, baseOf(1<<31, noise(5))...)
	w := keeps(t, d, kept{gen: 1 << 31, base: noise(5)}, "the greatest generation")
	for _, size := range []int{0, 1, 2440} {
		stays(t, d, w, api.ErrFull, fmt.Sprint("Turn of ", size), func() api.Errno { return w.Turn(noise(size)) })
	}
	stays(t, d, w, api.ErrBig, "Turn of too much", func() api.Errno { return w.Turn(noise(2441)) })
	does(t, w.Commit([]byte{1}), api.OK, "Commit")
	keeps(t, d, kept{1 << 31, noise(5), [][]byte{{1}}}, "the greatest generation, a record")

	d = put(diskOf(20), 5, baseOf(1<<31-1, nil)...)
	w = keeps(t, d, kept{gen: 1<<31 - 1}, "one less")
	does(t, w.Turn([]byte{1}), api.OK, "Turn to the greatest generation")
	stays(t, d, w, api.ErrFull, "Turn", func() api.Errno { return w.Turn(nil) })
	keeps(t, d, kept{gen: 1 << 31, base: []byte{1}}, "turned")
}

// Wa2: with the disk's error a wal is broken, tells it, and then ErrState, ahead of all else, also when the disk lives again.
func TestBroken(t *testing.T) {
	for _, call := range []func(*Wal, []byte) api.Errno{(*Wal).Commit, (*Wal).Turn} {
		for size := 0; size <= 2440; size += 488 {
			for acts := range needs(size) + 1 {
				d := diskOf(20)
				w, _ := opened(t, d, "new")
				does(t, w.Commit([]byte{1}), api.OK, "Commit")
				d.Arm(acts)
				does(t, call(w, noise(size)), api.ErrDead, fmt.Sprint(size, " bytes, ", acts, " acts"))
				for range 2 {
					for _, more := range []int{0, 1, 500, 7000, 7808, 7809, 65536} {
						does(t, w.Commit(make([]byte, more)), api.ErrState, fmt.Sprint("Commit of ", more, ", broken"))
						does(t, w.Turn(make([]byte, more)), api.ErrState, fmt.Sprint("Turn of ", more, ", broken"))
					}
					if !w.Broken() || w.Gen() != 1 || w.Free() != 9 || w.Room() != 5 {
						t.Errorf("broken: %v, Gen %d, Free %d, Room %d", w.Broken(), w.Gen(), w.Free(), w.Room())
					}
					d.Crash(nil)
				}
				if len(d.Waits()) != 0 {
					t.Error("a broken wal writes")
				}
				keeps(t, d, kept{gen: 1, records: [][]byte{{1}}}, "behind it")
			}
		}
	}
}

// Wa2: pages are written from the first one on: when the disk dies, just those ahead wait.
func TestOrder(t *testing.T) {
	for acts := range 5 {
		for from, call := range map[int]func(*Wal, []byte) api.Errno{10: (*Wal).Commit, 0: (*Wal).Turn} {
			d := diskOf(20)
			w, _ := opened(t, d, "new")
			d.Arm(acts)
			does(t, call(w, noise(2000)), api.ErrDead, "five pages")
			var want []int
			for i := range acts {
				want = append(want, from+i)
			}
			if got := d.Waits(); !slices.Equal(got, want) {
				t.Errorf("%d acts from %d on: %v wait", acts, from, got)
			}
		}
	}
}

// Wa2: of a disk that died of another's act the wal breaks at its next one; what is refused ahead of that does not break it.
func TestDeadBetween(t *testing.T) {
	for _, call := range []func(*Wal, []byte) api.Errno{(*Wal).Commit, (*Wal).Turn} {
		d := diskOf(20)
		w, _ := opened(t, d, "new")
		d.Arm(0)
		d.Flush()
		does(t, call(w, noise(7809)), api.ErrBig, "too big, of a dead disk")
		if w.Broken() {
			t.Error("broken by ErrBig")
		}
		does(t, call(w, nil), api.ErrDead, "of a dead disk")
		does(t, call(w, nil), api.ErrState, "broken")
		if !w.Broken() {
			t.Error("it is not broken")
		}
	}
}

// R1: a wal that Open did not give is broken, has nothing, and answers ErrState.
func TestNobody(t *testing.T) {
	for _, w := range []*Wal{nil, {}} {
		for _, b := range [][]byte{nil, {1}, noise(7808), noise(7809)} {
			does(t, w.Commit(b), api.ErrState, "Commit of nobody")
			does(t, w.Turn(b), api.ErrState, "Turn of nobody")
		}
		if w.Gen() != 0 || w.Free() != 0 || w.Room() != 0 || !w.Broken() {
			t.Errorf("nobody: Gen %d, Free %d, Room %d, Broken %v", w.Gen(), w.Free(), w.Room(), w.Broken())
		}
	}
}

// R3: what is handed in is not written to, nor kept, and what is answered is new memory.
func TestNewMemory(t *testing.T) {
	d := diskOf(40)
	w, _ := opened(t, d, "new")
	for _, call := range []func([]byte) api.Errno{w.Turn, w.Commit, w.Commit} {
		b := noise(800)
		does(t, call(b), api.OK, "call")
		if !bytes.Equal(b, noise(800)) {
			t.Error("the argument was written to")
		}
		clear(b)
	}
	want := kept{2, noise(800), [][]byte{noise(800), noise(800)}}
	_, base, l, _ := Open(d)
	for i, b := range [][]byte{base, l[0], l[1]} {
		clear(b)
		_ = append(b[:0:cap(b)], make([]byte, cap(b))...)
		rest := slices.Concat(l, [][]byte{noise(800)})[max(i, 0):]
		if !same(rest, slices.Repeat([][]byte{noise(800)}, len(rest))) {
			t.Errorf("answer %d shares memory", i)
		}
	}
	keeps(t, d, want, "again")
}

// torn are three ways in which a sector that waits may be found: as it was, as it was written, and torn so that it is no page.
var torn = []api.Tear{{Kind: api.TearLost}, {Kind: api.TearKept}, {Kind: api.TearTorn, B: bytes.Repeat([]byte{0xA5}, 300)}}

// crashes calls with each clone of a dead disk, each crashed by other ones of all lists of tears.
func crashes(d *disk.Disk, found func(c *disk.Disk, what string)) {
	n := len(d.Waits())
	all := 1
	for range n {
		all *= len(torn)
	}
	for k := range all {
		var tears []api.Tear
		what := "tears"
		for i := k; len(tears) < n; i /= len(torn) {
			tears = append(tears, torn[i%len(torn)])
			what += fmt.Sprint(" ", i%len(torn))
		}
		c := d.Clone()
		c.Crash(tears)
		found(c, what)
	}
}

// either fails if a disk opens with neither of two; it answers which one it is, opened again.
func either(t *testing.T, d *disk.Disk, a, b kept, what string) (*Wal, kept) {
	t.Helper()
	_, k := opened(t, d, what)
	if !k.like(a) && !k.like(b) {
		t.Errorf("%s: opens with %v, want %v or %v", what, k, a, b)
	}
	// Opened twice it is the same.
	return keeps(t, d, k, what+", again"), k
}

// Wa3: behind a crash at any act of a Commit, all of its record is there, or nothing, and all ahead of it; twice.
func TestCrashCommit(t *testing.T) {
	start := diskOf(20)
	w, was := opened(t, start, "new")
	does(t, w.Commit(noise(500)), api.OK, "Commit")
	was = was.with(noise(500))
	for _, first := range []int{0, 3, 600, 1400} {
		for acts := range needs(first) + 1 {
			d := start.Clone()
			w := keeps(t, d, was, "start")
			d.Arm(acts)
			does(t, w.Commit(noise(first)), api.ErrDead, "Commit")
			crashes(d, func(c *disk.Disk, what string) {
				what = fmt.Sprint(first, " bytes, ", acts, " acts, ", what)
				_, k := either(t, c, was, was.with(noise(first)), what)
				for _, second := range []int{5, 700, 1300} {
					crashAgain(t, c, k, second, what)
				}
			})
		}
	}
}

// crashAgain fails if a disk that keeps something is not as it must be behind another crash, at any act of a Commit of n bytes.
func crashAgain(t *testing.T, start *disk.Disk, was kept, n int, what string) {
	for acts := range needs(n) + 2 {
		d := start.Clone()
		w := keeps(t, d, was, what)
		d.Arm(acts)
		b := noise(n)
		if acts == needs(n)+1 {
			does(t, w.Commit(b), api.OK, what)
			d.Crash(nil)
			keeps(t, d, was.with(b), what+", then Commit")
			continue
		}
		does(t, w.Commit(b), api.ErrDead, what)
		crashes(d, func(c *disk.Disk, more string) {
			more = fmt.Sprint(what, ", then ", n, " bytes, ", acts, " acts, ", more)
			if w, k := either(t, c, was, was.with(b), more); w.Commit([]byte{7}) == api.OK {
				c.Crash(nil)
				keeps(t, c, k.with([]byte{7}), more+", then one byte")
			}
		})
	}
}

// Wa3: behind a crash at any act of a Turn, it opens with the new base, or with the one that was and its records; twice.
func TestCrashTurn(t *testing.T) {
	for _, older := range []int{0, 600, 1400} {
		start := diskOf(14)
		w, _ := opened(t, start, "new")
		does(t, w.Turn(noise(older)), api.OK, "Turn")
		does(t, w.Commit([]byte{9}), api.OK, "Commit")
		does(t, w.Turn(noise(1300)), api.OK, "Turn")
		does(t, w.Commit(noise(900)), api.OK, "Commit")
		was := kept{3, noise(1300), [][]byte{noise(900)}}
		for _, n := range []int{0, 500, 1464} {
			for acts := range needs(n) + 1 {
				d := start.Clone()
				w := keeps(t, d, was, "start")
				d.Arm(acts)
				does(t, w.Turn(noise(n)), api.ErrDead, "Turn")
				crashes(d, func(c *disk.Disk, what string) {
					what = fmt.Sprint(older, " bytes, then ", n, ", ", acts, " acts, ", what)
					_, k := either(t, c, was, kept{gen: 4, base: noise(n)}, what)
					turnAgain(t, c, k, 1400, what)
				})
			}
		}
	}
}

// turnAgain fails if a disk that keeps something is not as it must be behind another crash, at any act of a Turn to n bytes.
func turnAgain(t *testing.T, start *disk.Disk, was kept, n int, what string) {
	for acts := range needs(n) + 2 {
		d := start.Clone()
		w := keeps(t, d, was, what)
		d.Arm(acts)
		is := kept{gen: was.gen + 1, base: noise(n)}
		if acts == needs(n)+1 {
			does(t, w.Turn(noise(n)), api.OK, what)
			d.Crash(nil)
			keeps(t, d, is, what+", then Turn")
			continue
		}
		does(t, w.Turn(noise(n)), api.ErrDead, what)
		crashes(d, func(c *disk.Disk, more string) {
			either(t, c, was, is, fmt.Sprint(what, ", then ", acts, " acts, ", more))
		})
	}
}

// Wa3: behind a crash at any act of the first opening, as often as it may be, a disk opens as a new one.
func TestCrashOpen(t *testing.T) {
	for _, n := range []int{6, 20} {
		fresh := diskOf(n)
		for acts := range 2 {
			d := fresh.Clone()
			d.Arm(acts)
			if _, _, _, e := Open(d); e != api.ErrDead {
				t.Fatalf("Open, %d acts: %d", acts, e)
			}
			crashes(d, func(c *disk.Disk, what string) {
				again := c.Clone()
				again.Arm(1)
				Open(again)
				if again.Dead() {
					crashes(again, func(c *disk.Disk, more string) {
						keeps(t, c, kept{gen: 1}, fmt.Sprint(n, " sectors, ", what, ", then ", more))
					})
				}
				keeps(t, c, kept{gen: 1}, fmt.Sprint(n, " sectors, ", acts, " acts, ", what))
			})
		}
	}
}

// chance is a tear, by chance, that the check tells: the sector is as it was, as it was written, or no page.
func chance(r *rand.Rand) api.Tear {
	switch r.Intn(5) {
	case 0, 1:
		return api.Tear{Kind: api.TearLost}
	case 2, 3:
		return api.Tear{Kind: api.TearKept}
	}
	return api.Tear{Kind: api.TearTorn, B: append([]byte{0}, noise(r.Intn(512))...)}
}

// step does one thing to a wal, and tells what it keeps, if it is done, and the answer.
func step(r *rand.Rand, w *Wal, k kept) (kept, api.Errno) {
	if r.Intn(6) == 0 {
		b := noise(r.Intn(488*w.Room() + 100))
		return kept{gen: k.gen + 1, base: b}, w.Turn(b)
	}
	b := noise(r.Intn(1500) * r.Intn(2))
	return k.with(b), w.Commit(b)
}

// Wa3: whatever is done, and wherever it crashes, each disk opens with all that was answered with OK, and with all or nothing of what was refused.
func TestCrashAny(t *testing.T) {
	r := rand.New(rand.NewSource(8))
	answers := map[api.Errno]int{}
	for try := range 40 {
		d := diskOf(6 + r.Intn(40))
		w, k := opened(t, d, "new")
		for i := range 150 {
			what := fmt.Sprint("try ", try, ", step ", i)
			if r.Intn(4) == 0 {
				d.Arm(r.Intn(5))
			}
			is, e := step(r, w, k)
			answers[e]++
			if e == api.OK {
				k = is
			}
			if e == api.OK && r.Intn(3) > 0 {
				continue
			}
			var tears []api.Tear
			for range d.Waits() {
				tears = append(tears, chance(r))
			}
			d.Crash(tears)
			if e != api.ErrDead {
				w = keeps(t, d, k, what)
				continue
			}
			w, k = either(t, d, k, is, what)
		}
	}
	if answers[api.OK] < 1000 || answers[api.ErrDead] < 300 || answers[api.ErrFull] < 300 || answers[api.ErrBig] < 10 {
		t.Errorf("%v: the steps are too much alike", answers)
	}
}

// R4: what is answered hangs on the arguments and the disk alone.
func TestAgain(t *testing.T) {
	run := func() [][]byte {
		d := diskOf(30)
		w, _ := opened(t, d, "new")
		for i := range 40 {
			if e := w.Commit(noise(i * 30)); e == api.ErrFull {
				does(t, w.Turn(noise(i*40)), api.OK, "Turn")
			}
			if i%7 == 0 {
				w, _ = opened(t, d, "again")
			}
		}
		return image(t, d)
	}
	if !same(run(), run()) {
		t.Error("the same calls make another disk")
	}
}
