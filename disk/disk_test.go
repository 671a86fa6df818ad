package disk

import (
	"bytes"
	"fmt"
	"math"
	"math/rand"
	"slices"
	"testing"

	"waymark/api"
)

// full is a sector's bytes, all alike.
func full(b byte) []byte { return bytes.Repeat([]byte{b}, api.Sector) }

// noughts is a sector that was never written.
func noughts() []byte { return make([]byte, api.Sector) }

// made is a disk of n sectors.
func made(t *testing.T, n int) *Disk {
	t.Helper()
	d, e := New(n)
	if d == nil || e != api.OK {
		t.Fatalf("New(%d) = %v, %d", n, d, e)
	}
	return d
}

// write writes, and must not be refused.
func write(t *testing.T, d *Disk, i int, b []byte) {
	t.Helper()
	if e := d.Write(i, b); e != api.OK {
		t.Fatalf("Write(%d) = %d", i, e)
	}
}

// flush flushes, and must not be refused.
func flush(t *testing.T, d *Disk) {
	t.Helper()
	if e := d.Flush(); e != api.OK {
		t.Fatalf("Flush = %d", e)
	}
}

// holds fails if sector i does not have these bytes.
func holds(t *testing.T, d *Disk, i int, want []byte) {
	t.Helper()
	if got, e := d.Read(i); e != api.OK || !bytes.Equal(got, want) {
		t.Errorf("Read(%d) = %s, %d, want %s", i, short(got), e, short(want))
	}
}

// waiting fails if others wait than these.
func waiting(t *testing.T, d *Disk, want ...int) {
	t.Helper()
	if got := d.Waits(); !slices.Equal(got, want) {
		t.Errorf("Waits = %v, want %v", got, want)
	}
}

// short is how many bytes there are, and those of a kind in a row once: enough to be looked at.
func short(b []byte) string {
	return fmt.Sprint(len(b), " bytes: ", slices.Compact(slices.Clone(b)))
}

// Di1: a disk has 1 to MaxSectors sectors.
func TestNew(t *testing.T) {
	for _, n := range []int{0, -1, -1024, 1025, 1026, 2048, 1 << 31, 1<<32 + 1, math.MaxInt, math.MinInt} {
		if d, e := New(n); d != nil || e != api.ErrArg {
			t.Errorf("New(%d) = %v, %d", n, d, e)
		}
	}
	for _, n := range []int{1, 2, 20, 1023, 1024} {
		d := made(t, n)
		if d.Size() != n || d.Dead() {
			t.Errorf("New(%d): Size %d, Dead %v", n, d.Size(), d.Dead())
		}
		waiting(t, d)
		for i := range n {
			holds(t, d, i, noughts())
		}
	}
}

// Di1: there are sectors 0 to Size - 1, no others.
func TestNoSector(t *testing.T) {
	for _, n := range []int{1, 7, 1024} {
		d := made(t, n)
		for _, i := range []int{0, n - 1} {
			write(t, d, i, full(3))
			holds(t, d, i, full(3))
		}
		flush(t, d)
		for _, i := range []int{-1, n, n + 1, -n, 1 << 32, math.MaxInt, math.MinInt} {
			if b, e := d.Read(i); len(b) != 0 || e != api.ErrArg {
				t.Errorf("Read(%d) of %d = %d bytes, %d", i, n, len(b), e)
			}
			if e := d.Write(i, full(1)); e != api.ErrArg {
				t.Errorf("Write(%d) of %d = %d", i, n, e)
			}
		}
		waiting(t, d)
	}
}

// Di1: Write takes a sector's bytes, not fewer, not more; what is refused turns nothing.
func TestWriteLength(t *testing.T) {
	d := made(t, 2)
	write(t, d, 1, full(4))
	flush(t, d)
	for _, n := range []int{0, 1, 511, 513, 1024} {
		if e := d.Write(1, bytes.Repeat([]byte{1}, n)); e != api.ErrArg {
			t.Errorf("Write of %d bytes = %d", n, e)
		}
	}
	if e := d.Write(0, nil); e != api.ErrArg {
		t.Errorf("Write of nothing = %d", e)
	}
	waiting(t, d)
	holds(t, d, 0, noughts())
	holds(t, d, 1, full(4))
}

// Di1: a sector reads as it was written last, or is safe; all other ones stay.
func TestReadWrite(t *testing.T) {
	d := made(t, 4)
	write(t, d, 2, full(1))
	holds(t, d, 2, full(1))
	write(t, d, 2, full(2))
	holds(t, d, 2, full(2))
	flush(t, d)
	holds(t, d, 2, full(2))
	write(t, d, 2, full(3))
	write(t, d, 0, full(4))
	holds(t, d, 2, full(3))
	write(t, d, 2, noughts())
	holds(t, d, 2, noughts())
	holds(t, d, 0, full(4))
	holds(t, d, 1, noughts())
	holds(t, d, 3, noughts())
}

// Di1: Flush makes all safe, and of none that wait it is an act as well.
func TestFlush(t *testing.T) {
	d := made(t, 3)
	flush(t, d)
	write(t, d, 2, full(1))
	write(t, d, 0, full(2))
	flush(t, d)
	waiting(t, d)
	d.Crash(nil)
	holds(t, d, 0, full(2))
	holds(t, d, 1, noughts())
	holds(t, d, 2, full(1))
}

// Di2: those that wait, rising, each once, whatever was written.
func TestWaits(t *testing.T) {
	d := made(t, 1024)
	for _, i := range []int{900, 3, 1023, 0, 3, 17, 900} {
		write(t, d, i, noughts())
	}
	waiting(t, d, 0, 3, 17, 900, 1023)
	clear(d.Waits())
	waiting(t, d, 0, 3, 17, 900, 1023)
	flush(t, d)
	waiting(t, d)
	write(t, d, 17, full(1))
	waiting(t, d, 17)
	d.Crash(nil)
	waiting(t, d)
}

// Di2: armed with n, n acts are done, the next one is not: it is dead then, not sooner.
func TestArm(t *testing.T) {
	acts := []func(d *Disk) api.Errno{
		func(d *Disk) api.Errno { return d.Write(0, full(1)) },
		func(d *Disk) api.Errno { return d.Flush() },
		func(d *Disk) api.Errno { return d.Write(1, full(2)) },
		func(d *Disk) api.Errno { return d.Write(1, full(3)) },
		func(d *Disk) api.Errno { return d.Flush() },
	}
	for n := range len(acts) {
		d := made(t, 2)
		d.Arm(n)
		for i := range n {
			if e := acts[i](d); e != api.OK || d.Dead() {
				t.Fatalf("armed with %d: act %d = %d, %v", n, i, e, d.Dead())
			}
		}
		if e := acts[n](d); e != api.ErrDead || !d.Dead() {
			t.Errorf("armed with %d: the next act = %d, %v", n, e, d.Dead())
		}
		for _, act := range acts {
			if e := act(d); e != api.ErrDead {
				t.Errorf("armed with %d, dead: %d", n, e)
			}
		}
	}
}

// Di2: the act that it dies of is not done: of a Write the sector does not wait, of a Flush those that wait still do.
func TestArmNotDone(t *testing.T) {
	d := made(t, 3)
	write(t, d, 2, full(1))
	d.Arm(0)
	if e := d.Write(0, full(2)); e != api.ErrDead {
		t.Errorf("Write = %d", e)
	}
	waiting(t, d, 2)
	d.Crash([]api.Tear{{Kind: api.TearKept}, {Kind: api.TearKept}})
	holds(t, d, 0, noughts())
	holds(t, d, 2, full(1))

	write(t, d, 1, full(3))
	d.Arm(0)
	if e := d.Write(1, full(4)); e != api.ErrDead {
		t.Errorf("Write of one that waits = %d", e)
	}
	waiting(t, d, 1)
	d.Crash([]api.Tear{{Kind: api.TearKept}})
	holds(t, d, 1, full(3))

	write(t, d, 1, full(5))
	d.Arm(0)
	if e := d.Flush(); e != api.ErrDead {
		t.Errorf("Flush = %d", e)
	}
	waiting(t, d, 1)
	d.Crash(nil)
	holds(t, d, 1, full(3))
}

// Di2: a disk is not armed at first.
func TestUnarmed(t *testing.T) {
	d := made(t, 1)
	for range 20000 {
		write(t, d, 0, full(1))
		flush(t, d)
	}
}

// Di2: what is refused by ErrArg is no act, nor is anything but Write and Flush.
func TestArmNoActs(t *testing.T) {
	d := made(t, 2)
	d.Arm(1)
	others := func() {
		t.Helper()
		for _, e := range []api.Errno{d.Write(2, full(1)), d.Write(-1, full(1)), d.Write(0, full(1)[1:]), d.Write(0, nil)} {
			if e != api.ErrArg {
				t.Errorf("refused by %d", e)
			}
		}
		if _, e := d.Read(2); e != api.ErrArg {
			t.Errorf("Read(2) = %d", e)
		}
		holds(t, d, 1, noughts())
		d.Waits()
		d.Size()
		d.Clone().Flush()
		if d.Dead() {
			t.Fatal("it died of what is no act")
		}
	}
	others()
	write(t, d, 0, full(1))
	others()
	if e := d.Write(0, full(2)); e != api.ErrDead || !d.Dead() {
		t.Errorf("Write = %d, %v", e, d.Dead())
	}
}

// Di2: of n below 0 it is not armed; armed anew, it has the new number.
func TestArmAnew(t *testing.T) {
	for _, n := range []int{-1, -2, math.MinInt} {
		d := made(t, 1)
		d.Arm(0)
		d.Arm(n)
		for range 2000 {
			write(t, d, 0, full(1))
			flush(t, d)
		}
	}
	d := made(t, 1)
	d.Arm(1)
	flush(t, d)
	d.Arm(2)
	flush(t, d)
	flush(t, d)
	if e := d.Flush(); e != api.ErrDead {
		t.Errorf("Flush = %d", e)
	}
	d = made(t, 1)
	d.Arm(math.MaxInt)
	write(t, d, 0, full(1))
	flush(t, d)
	d.Arm(1)
	d.Arm(0)
	if e := d.Flush(); e != api.ErrDead {
		t.Errorf("Flush = %d", e)
	}
}

// Di1: of a dead disk ErrDead, ahead of all else; it tells its size and those that wait, and stays dead till a crash.
func TestDead(t *testing.T) {
	d := made(t, 3)
	write(t, d, 1, full(1))
	d.Arm(0)
	d.Flush()
	for _, n := range []int{5, 0, -1} {
		d.Arm(n)
		for _, i := range []int{-1, 0, 1, 2, 3, math.MaxInt} {
			if b, e := d.Read(i); len(b) != 0 || e != api.ErrDead {
				t.Errorf("Read(%d) = %d bytes, %d", i, len(b), e)
			}
			for _, b := range [][]byte{nil, {1}, full(2)} {
				if e := d.Write(i, b); e != api.ErrDead {
					t.Errorf("Write(%d) = %d", i, e)
				}
			}
		}
		if e := d.Flush(); e != api.ErrDead {
			t.Errorf("Flush = %d", e)
		}
		if !d.Dead() || d.Size() != 3 {
			t.Errorf("Dead %v, Size %d", d.Dead(), d.Size())
		}
		waiting(t, d, 1)
	}
}

// Di2: behind a crash it is not dead, and not armed, whether it had died or not.
func TestCrashUnarmed(t *testing.T) {
	for n := range 3 {
		d := made(t, 1)
		d.Arm(n)
		for range 2 * n {
			d.Flush()
		}
		d.Crash(nil)
		for range 9 {
			if d.Dead() {
				t.Fatalf("armed with %d: dead", n)
			}
			write(t, d, 0, full(1))
			flush(t, d)
		}
	}
}

// Di2: each kind of tear, of a sector that was safe with other bytes.
func TestTear(t *testing.T) {
	was, is := full(1), full(2)
	ramp := noughts()
	for i := range ramp {
		ramp[i] = byte(i*7 + i>>8)
	}
	for _, c := range []struct {
		name string
		tear api.Tear
		want []byte
	}{
		{"lost", api.Tear{Kind: api.TearLost}, was},
		{"lost, with bytes", api.Tear{Kind: api.TearLost, B: full(3)}, was},
		{"kept", api.Tear{Kind: api.TearKept}, is},
		{"kept, with bytes", api.Tear{Kind: api.TearKept, B: full(3)}, is},
		{"torn, no bytes", api.Tear{Kind: api.TearTorn}, was},
		{"torn, an empty list", api.Tear{Kind: api.TearTorn, B: []byte{}}, was},
		{"torn, one byte", api.Tear{Kind: api.TearTorn, B: []byte{5}}, append([]byte{5}, was[1:]...)},
		{"torn, three", api.Tear{Kind: api.TearTorn, B: []byte{5, 6, 7}}, append([]byte{5, 6, 7}, was[3:]...)},
		{"torn, 511", api.Tear{Kind: api.TearTorn, B: ramp[:511]}, append(bytes.Clone(ramp[:511]), 1)},
		{"torn, 512", api.Tear{Kind: api.TearTorn, B: ramp}, ramp},
		{"torn, 513", api.Tear{Kind: api.TearTorn, B: append(bytes.Clone(ramp), 9)}, ramp},
		{"torn, 2000", api.Tear{Kind: api.TearTorn, B: append(bytes.Clone(ramp), make([]byte, 1488)...)}, ramp},
		{"kind 3", api.Tear{Kind: 3, B: full(3)}, was},
		{"kind -1", api.Tear{Kind: -1, B: full(3)}, was},
		{"kind 258", api.Tear{Kind: 258, B: full(3)}, was},
		{"kind 2^32+1", api.Tear{Kind: 1<<32 + 1, B: full(3)}, was},
		{"the greatest kind", api.Tear{Kind: math.MaxInt, B: full(3)}, was},
	} {
		d := made(t, 3)
		write(t, d, 1, was)
		flush(t, d)
		write(t, d, 1, full(8))
		write(t, d, 1, is)
		d.Crash([]api.Tear{c.tear})
		for range 2 {
			if got, e := d.Read(1); e != api.OK || !bytes.Equal(got, c.want) {
				t.Errorf("%s: %s, %d, want %s", c.name, short(got), e, short(c.want))
			}
			waiting(t, d)
			holds(t, d, 0, noughts())
			holds(t, d, 2, noughts())
			// All are safe: a second crash finds none that waits.
			d.Crash([]api.Tear{{Kind: api.TearTorn, B: full(9)}, {Kind: api.TearKept}})
		}
	}
}

// Di2: behind the torn bytes of a sector that was never safe with any are noughts, not what was written.
func TestTornNoughts(t *testing.T) {
	d := made(t, 1)
	write(t, d, 0, full(7))
	d.Crash([]api.Tear{{Kind: api.TearTorn, B: []byte{5, 6}}})
	holds(t, d, 0, append([]byte{5, 6}, noughts()[2:]...))
}

// The chapter's example: Write, Crash of nothing: noughts.
func TestExample(t *testing.T) {
	for _, l := range [][]api.Tear{nil, {}} {
		d := made(t, 1)
		write(t, d, 0, full(7))
		d.Crash(l)
		holds(t, d, 0, noughts())
	}
}

// Di2: tears go to those that wait by their numbers, not by when they were written; where there are fewer, the rest
// is lost; where there are more, these are for nobody.
func TestTearsInOrder(t *testing.T) {
	kept := api.Tear{Kind: api.TearKept}
	torn := api.Tear{Kind: api.TearTorn, B: full(9)}
	lost := api.Tear{Kind: api.TearLost}
	for _, c := range []struct {
		tears []api.Tear
		want  [3]byte
	}{
		{nil, [3]byte{1, 2, 3}},
		{[]api.Tear{kept}, [3]byte{11, 2, 3}},
		{[]api.Tear{lost, kept}, [3]byte{1, 12, 3}},
		{[]api.Tear{lost, lost, kept}, [3]byte{1, 2, 13}},
		{[]api.Tear{torn, kept}, [3]byte{9, 12, 3}},
		{[]api.Tear{kept, lost, torn}, [3]byte{11, 2, 9}},
		{[]api.Tear{kept, kept, kept, torn, kept, torn}, [3]byte{11, 12, 13}},
		{[]api.Tear{{Kind: 5}, kept, {Kind: -5}, torn}, [3]byte{1, 12, 3}},
	} {
		d := made(t, 9)
		places := [3]int{2, 5, 8}
		for k, i := range places {
			write(t, d, i, full(byte(k+1)))
		}
		write(t, d, 3, full(4))
		flush(t, d)
		for _, k := range []int{2, 0, 1} {
			write(t, d, places[k], full(byte(k+11)))
		}
		d.Crash(c.tears)
		for k, i := range places {
			holds(t, d, i, full(c.want[k]))
		}
		holds(t, d, 3, full(4))
		holds(t, d, 0, noughts())
	}
}

// Di2: what a crash lets be is safe: a later one, and what it tears, stand on it.
func TestCrashTwice(t *testing.T) {
	d := made(t, 1)
	write(t, d, 0, full(1))
	d.Crash([]api.Tear{{Kind: api.TearKept}})
	write(t, d, 0, full(2))
	d.Crash([]api.Tear{{Kind: api.TearTorn, B: []byte{3}}})
	holds(t, d, 0, append([]byte{3}, full(1)[1:]...))
	write(t, d, 0, full(4))
	d.Crash([]api.Tear{{Kind: api.TearTorn, B: []byte{5, 5}}})
	holds(t, d, 0, append([]byte{5, 5}, full(1)[2:]...))
	write(t, d, 0, full(6))
	d.Crash(nil)
	holds(t, d, 0, append([]byte{5, 5}, full(1)[2:]...))
}

// Di2: a clone is as the disk is, its safe sectors, those that wait, and what it is armed with.
func TestCloneAlike(t *testing.T) {
	d := made(t, 5)
	write(t, d, 1, full(1))
	write(t, d, 4, full(4))
	flush(t, d)
	write(t, d, 1, full(2))
	write(t, d, 0, full(3))
	d.Arm(1)
	c := d.Clone()
	if c == d || c.Size() != 5 || c.Dead() {
		t.Fatalf("Size %d, Dead %v", c.Size(), c.Dead())
	}
	waiting(t, c, 0, 1)
	holds(t, c, 0, full(3))
	holds(t, c, 1, full(2))
	holds(t, c, 4, full(4))
	write(t, c, 2, full(5))
	if e := c.Flush(); e != api.ErrDead {
		t.Errorf("armed with 1, its second act = %d", e)
	}
	dead := c.Clone()
	if !dead.Dead() {
		t.Error("a dead disk's clone is not dead")
	}
	waiting(t, dead, 0, 1, 2)
	dead.Crash([]api.Tear{{}, {}, {Kind: api.TearKept}})
	holds(t, dead, 0, noughts())
	holds(t, dead, 1, full(1))
	holds(t, dead, 2, full(5))
	holds(t, dead, 4, full(4))
	if !c.Dead() {
		t.Error("a clone's crash reached the disk")
	}
}

// Di2: a clone turns by itself, and so does the disk.
func TestCloneApart(t *testing.T) {
	d := made(t, 3)
	write(t, d, 0, full(1))
	flush(t, d)
	write(t, d, 1, full(2))
	turns := func(x *Disk) {
		write(t, x, 0, full(8))
		write(t, x, 1, full(8))
		write(t, x, 2, full(8))
		flush(t, x)
		write(t, x, 1, full(9))
		x.Arm(0)
		x.Flush()
	}
	stays := func(x *Disk) {
		t.Helper()
		if x.Dead() {
			t.Error("it is dead")
		}
		waiting(t, x, 1)
		holds(t, x, 0, full(1))
		holds(t, x, 1, full(2))
		holds(t, x, 2, noughts())
		x.Crash(nil)
		holds(t, x, 0, full(1))
		holds(t, x, 1, noughts())
	}
	first, second := d.Clone(), d.Clone()
	turns(first)
	stays(second)
	third := d.Clone()
	turns(d)
	stays(third)
}

// Of a disk that New did not give: ErrDead, 0, nothing; it is dead, and stays so.
func TestNone(t *testing.T) {
	for _, d := range []*Disk{nil, {}, new(Disk)} {
		for range 2 {
			for _, i := range []int{-1, 0, 1, 1024} {
				if b, e := d.Read(i); len(b) != 0 || e != api.ErrDead {
					t.Errorf("Read(%d) = %d bytes, %d", i, len(b), e)
				}
				for _, b := range [][]byte{nil, full(1)} {
					if e := d.Write(i, b); e != api.ErrDead {
						t.Errorf("Write(%d) = %d", i, e)
					}
				}
			}
			if e := d.Flush(); e != api.ErrDead {
				t.Errorf("Flush = %d", e)
			}
			if c := d.Clone(); !c.Dead() || c.Size() != 0 {
				t.Error("its clone is a disk")
			}
			if d.Size() != 0 || !d.Dead() || len(d.Waits()) != 0 {
				t.Errorf("Size %d, Dead %v, Waits %v", d.Size(), d.Dead(), d.Waits())
			}
			d.Arm(3)
			d.Crash([]api.Tear{{Kind: api.TearKept}})
		}
	}
}

// R3: what is handed in is neither written to nor kept, and what is answered is new memory.
func TestNewMemory(t *testing.T) {
	d := made(t, 2)
	b := full(1)
	write(t, d, 0, b)
	if !bytes.Equal(b, full(1)) {
		t.Error("Write wrote to what it was handed")
	}
	clear(b)
	holds(t, d, 0, full(1))
	for range 2 {
		got, _ := d.Read(0)
		clear(got)
		clear(got[:cap(got)])
		holds(t, d, 0, full(1))
		flush(t, d)
	}
	got, _ := d.Read(1)
	got[0] = 7
	holds(t, d, 1, noughts())

	tears := []api.Tear{{Kind: api.TearTorn, B: full(3)}, {Kind: api.TearTorn, B: []byte{4}}}
	write(t, d, 0, full(2))
	write(t, d, 1, full(2))
	d.Crash(tears)
	if !bytes.Equal(tears[0].B, full(3)) || !bytes.Equal(tears[1].B, []byte{4}) || len(tears) != 2 {
		t.Error("Crash wrote to what it was handed")
	}
	clear(tears[0].B)
	clear(tears[1].B)
	holds(t, d, 0, full(3))
	holds(t, d, 1, append([]byte{4}, noughts()[1:]...))
}

// byWords is a disk as the document words it: of each sector what is safe, what was written last, and whether it waits.
type byWords struct {
	safe, last [][]byte
	waits      []bool
	armed      bool
	left       int
	dead       bool
}

func newWords(n int) *byWords {
	w := &byWords{waits: make([]bool, n)}
	for range n {
		w.safe, w.last = append(w.safe, noughts()), append(w.last, noughts())
	}
	return w
}

// dies tells whether the next act is not done.
func (w *byWords) dies() bool {
	if w.armed && w.left == 0 {
		w.dead = true
	}
	w.left--
	return w.dead
}

func (w *byWords) write(i int, b []byte) api.Errno {
	if w.dead {
		return api.ErrDead
	}
	if i < 0 || i >= len(w.safe) || len(b) != 512 {
		return api.ErrArg
	}
	if w.dies() {
		return api.ErrDead
	}
	w.last[i], w.waits[i] = bytes.Clone(b), true
	return api.OK
}

func (w *byWords) flush() api.Errno {
	if w.dead || w.dies() {
		return api.ErrDead
	}
	for i := range w.safe {
		w.safe[i], w.waits[i] = w.last[i], false
	}
	return api.OK
}

func (w *byWords) crash(l []api.Tear) {
	for i := range w.safe {
		if !w.waits[i] {
			continue
		}
		tear := api.Tear{}
		if len(l) > 0 {
			tear, l = l[0], l[1:]
		}
		if tear.Kind == 1 {
			w.safe[i] = w.last[i]
		}
		if tear.Kind == 2 {
			all := append(bytes.Clone(tear.B), w.safe[i][min(512, len(tear.B)):]...)
			w.safe[i] = all[:512]
		}
		w.last[i], w.waits[i] = w.safe[i], false
	}
	w.dead, w.armed = false, false
}

func (w *byWords) waiting() []int {
	var l []int
	for i, b := range w.waits {
		if b {
			l = append(l, i)
		}
	}
	return l
}

func (w *byWords) clone() *byWords {
	c := *w
	c.safe, c.last, c.waits = slices.Clone(w.safe), slices.Clone(w.last), slices.Clone(w.waits)
	return &c
}

// anyBytes is bytes, mostly as many as a sector has.
func anyBytes(r *rand.Rand) []byte {
	n := api.Sector
	if r.Intn(6) == 0 {
		n = r.Intn(2 * api.Sector)
	}
	b := make([]byte, n)
	r.Read(b)
	return b
}

// anyTears is some tears of all kinds, and of none.
func anyTears(r *rand.Rand) []api.Tear {
	var l []api.Tear
	for range r.Intn(6) {
		b := anyBytes(r)
		l = append(l, api.Tear{Kind: r.Intn(5) - 1, B: b[:r.Intn(len(b)+1)]})
	}
	return l
}

// alike fails if a disk is not as the document's words have it.
func alike(t *testing.T, d *Disk, w *byWords) {
	t.Helper()
	if d.Dead() != w.dead || d.Size() != len(w.safe) || !slices.Equal(d.Waits(), w.waiting()) {
		t.Fatalf("Dead %v, Waits %v; want %v, %v", d.Dead(), d.Waits(), w.dead, w.waiting())
	}
	for i := range w.safe {
		got, e := d.Read(i)
		if w.dead && (e != api.ErrDead || len(got) != 0) || !w.dead && (e != api.OK || !bytes.Equal(got, w.last[i])) {
			t.Fatalf("Read(%d) = %s, %d", i, short(got), e)
		}
	}
}

// Di1, Di2: any calls, against the document's words; now and then one goes on with a clone.
func TestAnyCalls(t *testing.T) {
	r := rand.New(rand.NewSource(1))
	for range 150 {
		n := 1 + r.Intn(6)
		d, w := made(t, n), newWords(n)
		for range 60 {
			switch r.Intn(10) {
			case 0:
				l := anyTears(r)
				d.Crash(l)
				w.crash(l)
			case 1:
				k := r.Intn(8) - 1
				d.Arm(k)
				w.armed, w.left = k >= 0, k
			case 2, 3:
				if got, want := d.Flush(), w.flush(); got != want {
					t.Fatalf("Flush = %d, want %d", got, want)
				}
			case 4:
				old, was := d, w.clone()
				d = d.Clone()
				old.Write(0, full(1))
				old.Crash(anyTears(r))
				alike(t, d, was)
			default:
				i, b := r.Intn(n+2)-1, anyBytes(r)
				if got, want := d.Write(i, b), w.write(i, b); got != want {
					t.Fatalf("Write(%d) of %d bytes = %d, want %d", i, len(b), got, want)
				}
			}
			alike(t, d, w)
		}
	}
}

// Di3: what is safe, and not written since, is there behind any crash, also of a disk that died, and many crashes on.
func TestSafeStays(t *testing.T) {
	r := rand.New(rand.NewSource(2))
	for range 100 {
		d := made(t, 8)
		want := make([][]byte, 8)
		for i := range want {
			want[i] = full(byte(r.Intn(256)))
			write(t, d, i, want[i])
		}
		flush(t, d)
		stays := []int{0, 1, 2, 3, 4, 5, 6, 7}
		for range 12 {
			d.Arm(r.Intn(6) - 1)
			for range r.Intn(4) {
				i := r.Intn(8)
				d.Write(i, anyBytes(r))
				stays = slices.DeleteFunc(stays, func(k int) bool { return k == i })
				if r.Intn(5) == 0 {
					d.Flush()
				}
			}
			d.Crash(anyTears(r))
			for _, i := range stays {
				holds(t, d, i, want[i])
			}
			if len(stays) < 3 {
				break
			}
		}
	}
}

// R4: what is answered hangs on the calls alone: the same calls, the same answers.
func TestSameCalls(t *testing.T) {
	run := func() ([]byte, []int) {
		d := made(t, 64)
		r := rand.New(rand.NewSource(3))
		for range 100 {
			d.Write(r.Intn(64), full(byte(r.Intn(256))))
		}
		waits := d.Waits()
		d.Crash([]api.Tear{{Kind: api.TearKept}, {}, {Kind: api.TearKept}, {Kind: api.TearTorn, B: []byte{1}}, {Kind: api.TearKept}})
		var all []byte
		for i := range 64 {
			b, _ := d.Read(i)
			all = append(all, b...)
		}
		return all, waits
	}
	all, waits := run()
	for range 20 {
		if again, l := run(); !bytes.Equal(again, all) || !slices.Equal(l, waits) {
			t.Fatal("the same calls have other answers")
		}
	}
}
