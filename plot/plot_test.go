package plot

import (
	"math"
	"testing"

	"waymark/api"
)

// edges are numbers at the edges that disks, slots, logs and generations have, and far off them.
var edges = []int{
	math.MinInt, math.MinInt + 1, -1 << 32, -1 << 31, -1024, -33, -32, -16, -6, -4, -3, -2, -1, 0, 1, 2, 3, 4, 5, 6, 7, 8,
	9, 10, 15, 16, 17, 31, 32, 33, 34, 63, 64, 65, 991, 992, 993, 1023, 1024, 1025, 1026, 1<<31 - 1, 1 << 31, 1<<31 + 1,
	1<<32 - 1, 1 << 32, 1<<32 + 1, 1<<32 + 6, math.MaxInt - 1025, math.MaxInt - 1024, math.MaxInt - 1, math.MaxInt,
}

// parted is, as the document words it, whose each sector of a disk is: the first slot's (0), the
// second one's (1), or the log's (2); nothing, if there is no such disk.
func parted(n int) []int {
	if n < 6 || n > 1024 {
		return nil
	}
	slot := 0
	for (slot+1)*4 <= n && slot < 16 {
		slot++
	}
	var l []int
	for i := range n {
		switch {
		case i < slot:
			l = append(l, 0)
		case i < 2*slot:
			l = append(l, 1)
		default:
			l = append(l, 2)
		}
	}
	return l
}

// byWords is a disk's plot, told by counting whose its sectors are; the zero one, if there is none.
func byWords(n int) api.Plot {
	var p api.Plot
	for _, whose := range parted(n) {
		switch whose {
		case 0:
			p.Slot++
			p.From++
		case 1:
			p.From++
		default:
			p.Log++
		}
	}
	return p
}

// plots are all plots that there are, by how many sectors their disks have.
func plots() map[api.Plot]int {
	m := map[api.Plot]int{}
	for n := 6; n <= 1024; n++ {
		m[byWords(n)] = n
	}
	return m
}

// strange are plots that are not told by Make, and many that are like some that are.
func strange() []api.Plot {
	l := []api.Plot{
		{}, {Slot: 1}, {From: 10}, {Log: 10}, {Slot: -5, From: -10, Log: -10},
		// Disks that are too small, or too great, parted as others are.
		{Slot: 1, From: 2, Log: 3}, {Slot: 1, From: 2, Log: 2}, {Slot: 0, From: 0, Log: 3}, {Slot: 16, From: 32, Log: 993},
		// Slots that are too great, too small, or overlap; a log that lies elsewhere.
		{Slot: 17, From: 34, Log: 990}, {Slot: 256, From: 512, Log: 512}, {Slot: 4, From: 8, Log: 12}, {Slot: 6, From: 12, Log: 8},
		{Slot: 5, From: 5, Log: 15}, {Slot: 5, From: 11, Log: 9}, {Slot: 5, From: 10, Log: 9}, {Slot: 5, From: 15, Log: 5},
		{Slot: 10, From: 5, Log: 10}, {Slot: 0, From: 0, Log: 20}, {Slot: 5, From: 10, Log: 14},
		// Sums that go round.
		{Slot: 5, From: math.MaxInt, Log: math.MinInt + 21}, {Slot: 5, From: math.MinInt + 10, Log: math.MinInt + 10},
		{Slot: 5, From: math.MaxInt, Log: math.MaxInt}, {Slot: 5, From: math.MinInt, Log: math.MinInt + 20},
		{Slot: 5 + 1<<32, From: 10, Log: 10}, {Slot: 5, From: 10 + 1<<32, Log: 10}, {Slot: 5, From: 10, Log: 10 + 1<<32},
		{Slot: math.MinInt + 5, From: 10, Log: 10},
	}
	for _, n := range edges {
		l = append(l, api.Plot{Slot: n, From: 10, Log: 10}, api.Plot{Slot: 5, From: n, Log: 10}, api.Plot{Slot: 5, From: 10, Log: n},
			api.Plot{Slot: n, From: 2 * n, Log: 4}, api.Plot{Slot: n, From: n, Log: n}, api.Plot{Slot: 5, From: n, Log: 20 - n})
	}
	for n := 1; n <= 1030; n++ {
		p := byWords(n)
		for _, d := range []int{-2, -1, 1, 2} {
			l = append(l, api.Plot{Slot: p.Slot + d, From: p.From, Log: p.Log}, api.Plot{Slot: p.Slot, From: p.From + d, Log: p.Log},
				api.Plot{Slot: p.Slot, From: p.From, Log: p.Log + d}, api.Plot{Slot: p.Slot, From: p.From + d, Log: p.Log - d},
				api.Plot{Slot: p.Slot + d, From: p.From + 2*d, Log: p.Log - 2*d})
		}
	}
	return l
}

// made is a disk's plot, which must not be refused.
func made(t *testing.T, n int) api.Plot {
	t.Helper()
	p, e := Make(n)
	if e != api.OK {
		t.Fatalf("Make(%d) = %d", n, e)
	}
	return p
}

// Pl1: Make, at plots that are known, and the chapter's example.
func TestMakeKnown(t *testing.T) {
	for n, want := range map[int]api.Plot{
		6:    {Slot: 1, From: 2, Log: 4},
		7:    {Slot: 1, From: 2, Log: 5},
		8:    {Slot: 2, From: 4, Log: 4},
		11:   {Slot: 2, From: 4, Log: 7},
		12:   {Slot: 3, From: 6, Log: 6},
		20:   {Slot: 5, From: 10, Log: 10},
		63:   {Slot: 15, From: 30, Log: 33},
		64:   {Slot: 16, From: 32, Log: 32},
		67:   {Slot: 16, From: 32, Log: 35},
		68:   {Slot: 16, From: 32, Log: 36},
		1023: {Slot: 16, From: 32, Log: 991},
		1024: {Slot: 16, From: 32, Log: 992},
	} {
		if p, e := Make(n); e != api.OK || p != want {
			t.Errorf("Make(%d) = %v, %d, want %v", n, p, e, want)
		}
	}
}

// Pl1: ErrArg of each number of sectors that no disk with a plot has, and the zero plot beside it.
func TestMakeNone(t *testing.T) {
	l := []int{-20, 0, 1, 2, 3, 4, 5, 1025, 1026, 2048}
	for _, n := range edges {
		if n < 6 || n > 1024 {
			l = append(l, n)
		}
	}
	for _, n := range l {
		if p, e := Make(n); e != api.ErrArg || p != (api.Plot{}) {
			t.Errorf("Make(%d) = %v, %d", n, p, e)
		}
	}
}

// Pl1: Make, of all numbers of sectors, against the document's words.
func TestMakeWords(t *testing.T) {
	for n := -100; n <= 2100; n++ {
		want := api.OK
		if parted(n) == nil {
			want = api.ErrArg
		}
		if p, e := Make(n); e != want || p != byWords(n) {
			t.Errorf("Make(%d) = %v, %d, want %v, %d", n, p, e, byWords(n), want)
		}
	}
}

// Pl1: Slot, at slots that are known.
func TestSlotKnown(t *testing.T) {
	for _, c := range []struct{ n, gen, from, to int }{
		{20, 0, 0, 5}, {20, 1, 5, 10}, {20, 2, 0, 5}, {20, 3, 5, 10},
		{6, 0, 0, 1}, {6, 1, 1, 2}, {9, 4, 0, 2}, {9, 5, 2, 4},
		{1024, 0, 0, 16}, {1024, 1, 16, 32}, {64, 1, 16, 32}, {63, 1, 15, 30},
		{20, 1<<31 - 1, 5, 10}, {20, 1 << 31, 0, 5}, {20, 1<<31 + 1, 5, 10}, {20, math.MaxInt - 1, 0, 5}, {20, math.MaxInt, 5, 10},
		{20, -1, 0, 0}, {20, -2, 0, 0}, {20, math.MinInt, 0, 0}, {20, math.MinInt + 1, 0, 0}, {1024, -1, 0, 0},
	} {
		if from, to := Slot(made(t, c.n), c.gen); from != c.from || to != c.to {
			t.Errorf("of %d sectors: Slot(%d) = %d, %d, want %d, %d", c.n, c.gen, from, to, c.from, c.to)
		}
	}
}

// Pl1: Slot, of all plots, at generations near and far, against whose the sectors are by the document's words.
func TestSlotWords(t *testing.T) {
	for n := 6; n <= 1024; n++ {
		p, whose := made(t, n), parted(n)
		for _, gen := range edges {
			from, to := Slot(p, gen)
			if gen < 0 {
				if from != 0 || to != 0 {
					t.Errorf("of %d sectors: Slot(%d) = %d, %d", n, gen, from, to)
				}
				continue
			}
			for i := range n {
				if within := from <= i && i < to; within != (whose[i] == gen&1) {
					t.Errorf("of %d sectors: Slot(%d) = %d, %d: sector %d is %d's", n, gen, from, to, i, whose[i])
				}
			}
			if from < 0 || to > n || to-from < 1 || to-from > 16 {
				t.Errorf("of %d sectors: Slot(%d) = %d, %d", n, gen, from, to)
			}
		}
	}
}

// Pl1: At, at places that are known.
func TestAtKnown(t *testing.T) {
	for _, c := range []struct{ n, i, want int }{
		{20, 0, 10}, {20, 3, 13}, {20, 9, 19}, {20, 10, -1}, {20, 11, -1}, {20, 20, -1}, {20, -1, -1}, {20, -10, -1},
		{6, 0, 2}, {6, 3, 5}, {6, 4, -1}, {1024, 0, 32}, {1024, 991, 1023}, {1024, 992, -1}, {1024, 1023, -1},
		{20, math.MaxInt, -1}, {20, math.MinInt, -1}, {20, 1 << 32, -1}, {20, math.MaxInt - 9, -1},
	} {
		if got := At(made(t, c.n), c.i); got != c.want {
			t.Errorf("of %d sectors: At(%d) = %d, want %d", c.n, c.i, got, c.want)
		}
	}
}

// Pl1: At, of all plots, at all places, against whose the sectors are by the document's words.
func TestAtWords(t *testing.T) {
	for n := 6; n <= 1024; n++ {
		p := made(t, n)
		place := 0
		for sector, whose := range parted(n) {
			if whose != 2 {
				continue
			}
			if got := At(p, place); got != sector {
				t.Errorf("of %d sectors: At(%d) = %d, want %d", n, place, got, sector)
			}
			place++
		}
		for _, i := range append([]int{place, place + 1, n, n + 1}, edges...) {
			if got := At(p, i); (i < 0 || i >= place) && got != -1 {
				t.Errorf("of %d sectors: At(%d) = %d", n, i, got)
			}
		}
	}
}

// Pl1: of a plot that is none that Make tells there is no slot, and no place of the log.
func TestStrange(t *testing.T) {
	all, none := plots(), 0
	for _, p := range strange() {
		if all[p] > 0 {
			continue
		}
		none++
		for _, n := range edges {
			if from, to := Slot(p, n); from != 0 || to != 0 {
				t.Errorf("Slot(%v, %d) = %d, %d", p, n, from, to)
			}
			if got := At(p, n); got != -1 {
				t.Errorf("At(%v, %d) = %d", p, n, got)
			}
		}
	}
	if none < 10000 {
		t.Errorf("%d that are none", none)
	}
}

// Pl1: of all small plots just those that Make tells have slots, and places.
func TestSmall(t *testing.T) {
	all, found := plots(), 0
	for slot := -2; slot <= 8; slot++ {
		for from := -2; from <= 18; from++ {
			for log := -2; log <= 25; log++ {
				p := api.Plot{Slot: slot, From: from, Log: log}
				_, to := Slot(p, 1)
				if is := all[p] > 0; to > 0 != is || At(p, 0) >= 0 != is {
					t.Errorf("%v: a slot up to %d, a log at %d", p, to, At(p, 0))
				} else if is {
					found++
				}
			}
		}
	}
	// Those of 6 to 35 sectors: of more a slot has nine at least.
	if found != 30 {
		t.Errorf("%d plots", found)
	}
}

// Pl2: no sector belongs to two; each belongs to one.
func TestEachSectorOnce(t *testing.T) {
	for n := 6; n <= 1024; n++ {
		p := made(t, n)
		owners := map[int]int{}
		for gen := range 2 {
			from, to := Slot(p, gen)
			for i := from; i < to; i++ {
				owners[i]++
			}
		}
		for i := range p.Log {
			owners[At(p, i)]++
		}
		for i := range n {
			if owners[i] != 1 {
				t.Errorf("of %d sectors: sector %d belongs to %d", n, i, owners[i])
			}
		}
		if len(owners) != n {
			t.Errorf("of %d sectors: %d belong to some", n, len(owners))
		}
	}
}

// Pl2: a generation's slot is that of the one two ahead of it, and never that of the next one.
func TestSlotsTurn(t *testing.T) {
	for n := 6; n <= 1024; n++ {
		p := made(t, n)
		for gen := range 20 {
			from, to := Slot(p, gen)
			nextFrom, nextTo := Slot(p, gen+1)
			againFrom, againTo := Slot(p, gen+2)
			if from < nextTo && nextFrom < to || from != againFrom || to != againTo {
				t.Errorf("of %d sectors: slots %d, %d, then %d, %d, then %d, %d", n, from, to, nextFrom, nextTo, againFrom, againTo)
			}
		}
	}
}

// R4: what is answered hangs on the arguments alone.
func TestAgain(t *testing.T) {
	first := made(t, 20)
	from, to := Slot(first, 3)
	for n := 6; n <= 1024; n++ {
		p := made(t, n)
		Slot(p, n)
		At(p, n/2)
	}
	if again := made(t, 20); again != first {
		t.Errorf("Make(20) = %v, and then %v", first, again)
	}
	if f, o := Slot(first, 3); f != from || o != to || At(first, 3) != 13 {
		t.Errorf("Slot = %d, %d, and then %d, %d; At = %d", from, to, f, o, At(first, 3))
	}
}
