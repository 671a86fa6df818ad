package table

import (
	"maps"
	"math"
	"math/rand"
	"slices"
	"testing"

	"waymark/api"
)

// The greatest node, cost, start (and epoch), and age, and how many neighbours there are at most, by the document.
const (
	mostNode  = 64
	mostCost  = 1 << 30
	mostBoot  = 1 << 30
	mostAge   = 4
	mostLinks = 16
)

// nobody are numbers that no node has.
func nobody() []int {
	return []int{math.MinInt, math.MinInt + 1, -1 << 62, -1 << 32, -1 << 31, -64, -2, -1, 0, 65, 66, 127, 128, 255, 256, 257,
		1 << 16, 1 << 31, 1<<32 + 1, 1<<32 + 2, 1<<62 + 1, math.MaxInt - 1, math.MaxInt}
}

// unheard, heard, full and got are neighbours as they become; no number of two nodes is alike.
func unheard(of int) api.Near {
	return api.Near{Of: of, Cost: 100 + of, Boot: 200 + of, Epoch: 300 + of}
}

func heard(of int) api.Near {
	n := unheard(of)
	n.Heard, n.Age = true, 1
	return n
}

func full(of int) api.Near {
	n := heard(of)
	n.Full, n.Age = true, 2
	return n
}

func got(of int) api.Near {
	n := full(of)
	n.Got, n.Age = true, 3
	return n
}

// kinds are the ways in which a neighbour is one, of which a kind stands for each.
func kinds() []func(int) api.Near { return []func(int) api.Near{unheard, heard, full, got} }

// all are neighbours of one kind, of these nodes.
func all(kind func(int) api.Near, nodes ...int) []api.Near {
	var l []api.Near
	for _, of := range nodes {
		l = append(l, kind(of))
	}
	return l
}

// upTo are the numbers from 1 up to the last one.
func upTo(last int) []int {
	var l []int
	for n := 1; n <= last; n++ {
		l = append(l, n)
	}
	return l
}

// evens are the first numbers that are even, so many: each has a gap ahead of it, and one behind.
func evens(many int) []int {
	l := upTo(many)
	for i := range l {
		l[i] *= 2
	}
	return l
}

// mixed are neighbours of these nodes, of one kind behind the other.
func mixed(nodes ...int) []api.Near {
	var l []api.Near
	for i, of := range nodes {
		l = append(l, kinds()[i%4](of))
	}
	return l
}

// with is a list with another neighbour at a place.
func with(l []api.Near, i int, n api.Near) []api.Near {
	l = slices.Clone(l)
	l[i] = n
	return l
}

// wrong are neighbours that may not be: each of one that may, but for one thing.
func wrong(of int) []api.Near {
	l := []api.Near{{}}
	for _, x := range nobody() {
		n := got(of)
		n.Of = x
		l = append(l, n)
	}
	for _, turn := range []func(*api.Near){
		func(n *api.Near) { n.Cost = -1 },
		func(n *api.Near) { n.Cost = 0 },
		func(n *api.Near) { n.Cost = mostCost + 1 },
		func(n *api.Near) { n.Boot = -1 },
		func(n *api.Near) { n.Boot = 0 },
		func(n *api.Near) { n.Boot = mostBoot + 1 },
		func(n *api.Near) { n.Epoch = -1 },
		func(n *api.Near) { n.Epoch = mostBoot + 1 },
		func(n *api.Near) { n.Age = -1 },
		func(n *api.Near) { n.Age = mostAge + 1 },
		func(n *api.Near) { n.Heard = false },
		func(n *api.Near) { n.Full = false },
		func(n *api.Near) { n.Heard, n.Full, n.Got = false, false, false },
	} {
		n := got(of)
		turn(&n)
		l = append(l, n)
	}
	return l
}

// tables are lists that may be tables.
func tables() [][]api.Near {
	l := [][]api.Near{
		nil, {}, mixed(1), mixed(64), mixed(1, 2), mixed(1, 64), mixed(63, 64), mixed(5, 9, 30, 31, 32, 60),
		{{Of: 1}}, {{Of: 64}}, {{Of: 1}, {Of: 2, Cost: 1}, {Of: 3, Boot: 1}, {Of: 4, Epoch: 1}},
		{{Of: mostNode, Cost: mostCost, Boot: mostBoot, Epoch: mostBoot, Heard: true, Full: true, Age: mostAge, Got: true}},
		mixed(49, 50, 51, 52, 53, 54, 55, 56, 57, 58, 59, 60, 61, 62, 63, 64),
		mixed(1, 2, 3, 4, 5, 6, 7, 8, 57, 58, 59, 60, 61, 62, 63, 64),
	}
	for many := range mostLinks + 1 {
		l = append(l, mixed(upTo(many)...), mixed(evens(many)...))
		for _, kind := range kinds() {
			l = append(l, all(kind, evens(many)...))
		}
	}
	return l
}

// none are lists that may not be tables.
func none() [][]api.Near {
	l := [][]api.Near{
		mixed(2, 1), mixed(2, 2), mixed(64, 1), mixed(64, 64), mixed(1, 2, 2), mixed(1, 1, 2), mixed(1, 3, 2), mixed(2, 1, 3), mixed(3, 2, 1),
		{full(2), full(2)}, {unheard(2), got(2)}, {got(2), unheard(2)},
		mixed(upTo(mostLinks + 1)...), mixed(evens(mostLinks + 1)...), mixed(upTo(mostNode)...), mixed(evens(mostNode / 2)...),
		all(unheard, upTo(mostLinks+1)...), all(full, evens(mostLinks+1)...), all(unheard, upTo(mostLinks+2)...),
		make([]api.Near, 1), make([]api.Near, mostLinks), make([]api.Near, mostLinks+1), make([]api.Near, 1000),
	}
	for _, many := range []int{1, 2, 3, 7, mostLinks} {
		may := mixed(evens(many)...)
		for i, n := range may {
			for _, w := range wrong(n.Of) {
				l = append(l, with(may, i, w))
			}
			if i > 0 {
				same, fallen := n, n
				same.Of, fallen.Of = may[i-1].Of, may[i-1].Of-1
				l = append(l, with(may, i, same), with(may, i, fallen))
			}
		}
	}
	return l
}

// isIn tells whether a number is within two others.
func isIn(n, low, high int) bool { return low <= n && n <= high }

// mayNear tells, as chapter 17 words it, whether a neighbour may be.
func mayNear(n api.Near) bool {
	return !slices.Contains([]bool{
		isIn(n.Of, 1, mostNode),
		isIn(n.Cost, 0, mostCost),
		isIn(n.Boot, 0, mostBoot),
		isIn(n.Epoch, 0, mostBoot),
		isIn(n.Age, 0, mostAge),
		!n.Heard || n.Boot >= 1 && n.Cost >= 1,
		!n.Full || n.Heard,
		!n.Got || n.Full,
		n.Heard || n.Age == 0,
	}, false)
}

// may tells, as the chapter words it, whether a list may be a table.
func may(l []api.Near) bool {
	for i, n := range l {
		if !mayNear(n) || slices.ContainsFunc(l[:i], func(x api.Near) bool { return x.Of >= n.Of }) {
			return false
		}
	}
	return len(l) <= mostLinks
}

// byNode is a list that may be a table in the tests' own form: its neighbours by their nodes.
func byNode(l []api.Near) map[int]api.Near {
	m := map[int]api.Near{}
	for _, n := range l {
		m[n.Of] = n
	}
	return m
}

// inOrder is what stands by its node as a list.
func inOrder(m map[int]api.Near) []api.Near {
	var l []api.Near
	for _, of := range slices.Sorted(maps.Keys(m)) {
		l = append(l, m[of])
	}
	return l
}

// findByWords and setByWords answer as the chapter words it.
func findByWords(l []api.Near, of int) (api.Near, bool) {
	if !may(l) {
		return api.Near{}, false
	}
	n, found := byNode(l)[of]
	return n, found
}

func setByWords(l []api.Near, n api.Near) ([]api.Near, api.Errno) {
	if !may(l) || !mayNear(n) {
		return nil, api.ErrArg
	}
	m := byNode(l)
	if _, found := m[n.Of]; !found && len(l) == mostLinks {
		return nil, api.ErrFull
	}
	m[n.Of] = n
	return inOrder(m), api.OK
}

// said is all that is told of a table's neighbours.
type said struct {
	heard []api.Heard
	full  []int
	links []api.Link
}

// saidByWords is what is told of them, as the chapter words it.
func saidByWords(l []api.Near) said {
	var s said
	if !may(l) {
		return s
	}
	for _, n := range l {
		if n.Heard {
			s.heard = append(s.heard, api.Heard{Of: n.Of, Boot: n.Boot})
		}
		if n.Full {
			s.full = append(s.full, n.Of)
			s.links = append(s.links, api.Link{To: n.Of, Cost: n.Cost})
		}
	}
	return s
}

// checks, finds, sets and tells fail if a call answers anything else; sets tells what it answered.
func checks(t *testing.T, l []api.Near, want api.Errno) {
	t.Helper()
	if e := Check(l); e != want {
		t.Errorf("Check(%+v) = %d, want %d", l, e, want)
	}
}

func finds(t *testing.T, l []api.Near, of int, want api.Near, there bool) {
	t.Helper()
	if n, found := Find(l, of); n != want || found != there {
		t.Errorf("Find(%+v, %d) = %+v, %v, want %+v, %v", l, of, n, found, want, there)
	}
}

func sets(t *testing.T, l []api.Near, n api.Near, want []api.Near, err api.Errno) []api.Near {
	t.Helper()
	is, e := Set(l, n)
	if !slices.Equal(is, want) || e != err || e != api.OK && is != nil {
		t.Errorf("Set(%+v, %+v) = %+v, %d, want %+v, %d", l, n, is, e, want, err)
	}
	return is
}

func tells(t *testing.T, l []api.Near, want said) {
	t.Helper()
	if is := Heard(l); !slices.Equal(is, want.heard) {
		t.Errorf("Heard(%+v) = %+v, want %+v", l, is, want.heard)
	}
	if is := Full(l); !slices.Equal(is, want.full) {
		t.Errorf("Full(%+v) = %+v, want %+v", l, is, want.full)
	}
	if is := Links(l); !slices.Equal(is, want.links) {
		t.Errorf("Links(%+v) = %+v, want %+v", l, is, want.links)
	}
}

// isRight fails if any call answers something else of a list than the chapter's words.
func isRight(t *testing.T, l []api.Near) {
	t.Helper()
	err := api.ErrArg
	if may(l) {
		err = api.OK
	}
	checks(t, l, err)
	tells(t, l, saidByWords(l))
	for _, of := range append(nobody(), upTo(mostNode)...) {
		n, there := findByWords(l, of)
		finds(t, l, of, n, there)
	}
	for _, of := range upTo(mostNode) {
		for _, kind := range kinds() {
			want, e := setByWords(l, kind(of))
			sets(t, l, kind(of), want, e)
		}
	}
}

// The chapter's example: one that is heard, and not full: no links.
func TestExample(t *testing.T) {
	l := []api.Near{{Of: 3, Cost: 7, Boot: 5, Heard: true}}
	checks(t, l, api.OK)
	tells(t, l, said{heard: []api.Heard{{Of: 3, Boot: 5}}})
}

// Tb1: Check, at tables that may be: none, one, and as many as there may be, of any kind.
func TestCheckMayBe(t *testing.T) {
	if api.MaxLinks != mostLinks || api.MaxNode != mostNode || api.MaxCost != mostCost || api.MaxBoot != mostBoot || api.MaxAge != mostAge {
		t.Fatalf("limits: %d, %d, %d, %d, %d", api.MaxLinks, api.MaxNode, api.MaxCost, api.MaxBoot, api.MaxAge)
	}
	for _, l := range tables() {
		if !may(l) {
			t.Fatalf("%+v is meant to be a table", l)
		}
		checks(t, l, api.OK)
	}
}

// Tb1, Tb2, R1: a list that may not be a table: ErrArg, nothing found, nothing set, nothing told; that is ahead of ErrFull.
func TestMayNotBe(t *testing.T) {
	l := none()
	if len(l) < 500 {
		t.Errorf("only %d lists", len(l))
	}
	for _, x := range l {
		if may(x) {
			t.Fatalf("%+v is meant to be no table", x)
		}
		checks(t, x, api.ErrArg)
		tells(t, x, said{})
		for _, of := range []int{-1, 0, 1, 2, 4, 16, 32, 63, 64, 65} {
			finds(t, x, of, api.Near{}, false)
			sets(t, x, full(of), nil, api.ErrArg)
		}
	}
}

// Tb1: Find, of a known table: each that is there, and none that is not.
func TestFindKnown(t *testing.T) {
	l := []api.Near{got(2), unheard(5), heard(6), full(64)}
	for _, n := range l {
		finds(t, l, n.Of, n, true)
	}
	for _, of := range append(nobody(), 1, 3, 4, 7, 32, 63) {
		finds(t, l, of, api.Near{}, false)
		finds(t, nil, of, api.Near{}, false)
		finds(t, []api.Near{}, of, api.Near{}, false)
	}
}

// Tb1: Set, in a known table: ahead of all, between two, behind all, and in place of one that is there, whatever that was.
func TestSetKnown(t *testing.T) {
	l := []api.Near{got(2), unheard(5), heard(6)}
	sets(t, nil, got(3), []api.Near{got(3)}, api.OK)
	sets(t, []api.Near{}, api.Near{Of: 64}, []api.Near{{Of: 64}}, api.OK)
	for _, kind := range kinds() {
		sets(t, l, kind(1), []api.Near{kind(1), got(2), unheard(5), heard(6)}, api.OK)
		sets(t, l, kind(2), []api.Near{kind(2), unheard(5), heard(6)}, api.OK)
		sets(t, l, kind(3), []api.Near{got(2), kind(3), unheard(5), heard(6)}, api.OK)
		sets(t, l, kind(4), []api.Near{got(2), kind(4), unheard(5), heard(6)}, api.OK)
		sets(t, l, kind(5), []api.Near{got(2), kind(5), heard(6)}, api.OK)
		sets(t, l, kind(6), []api.Near{got(2), unheard(5), kind(6)}, api.OK)
		sets(t, l, kind(7), []api.Near{got(2), unheard(5), heard(6), kind(7)}, api.OK)
		sets(t, l, kind(64), []api.Near{got(2), unheard(5), heard(6), kind(64)}, api.OK)
	}
}

// Tb1: Set, at as many as there may be: one more is ErrFull; one that is there is put; with one less there is room.
func TestSetFull(t *testing.T) {
	l := mixed(evens(mostLinks)...)
	for _, of := range upTo(mostNode) {
		for _, kind := range kinds() {
			if of%2 == 0 && of <= 2*mostLinks {
				sets(t, l, kind(of), with(l, of/2-1, kind(of)), api.OK)
			} else {
				sets(t, l, kind(of), nil, api.ErrFull)
			}
		}
	}
	for i := range l {
		less := slices.Delete(slices.Clone(l), i, i+1)
		sets(t, less, l[i], l, api.OK)
	}
}

// Tb1: Set answers ErrArg, and nothing, of a neighbour that may not be, also where it is there, or there is no room for it.
func TestSetWrong(t *testing.T) {
	for _, l := range tables() {
		for _, of := range []int{1, 2, 31, 32, 64} {
			for _, n := range wrong(of) {
				sets(t, l, n, nil, api.ErrArg)
			}
		}
	}
}

// Tb2: what is told of a known table: those that are heard, those that are full, and the links to these, in order.
func TestToldKnown(t *testing.T) {
	tells(t, nil, said{})
	tells(t, []api.Near{}, said{})
	tells(t, []api.Near{{Of: 1}, unheard(2), unheard(64)}, said{})
	tells(t, []api.Near{unheard(2), heard(5), full(6), unheard(7), got(64)}, said{
		heard: []api.Heard{{Of: 5, Boot: 205}, {Of: 6, Boot: 206}, {Of: 64, Boot: 264}},
		full:  []int{6, 64},
		links: []api.Link{{To: 6, Cost: 106}, {To: 64, Cost: 164}},
	})
	most := api.Near{Of: 1, Cost: mostCost, Boot: mostBoot, Heard: true, Full: true}
	least := api.Near{Of: 2, Cost: 1, Boot: 1, Heard: true, Full: true}
	tells(t, []api.Near{most, least}, said{
		heard: []api.Heard{{Of: 1, Boot: mostBoot}, {Of: 2, Boot: 1}},
		full:  []int{1, 2},
		links: []api.Link{{To: 1, Cost: mostCost}, {To: 2, Cost: 1}},
	})
}

// Tb2: of as many as there may be, all of which are full, all are told.
func TestToldAll(t *testing.T) {
	l := all(got, evens(mostLinks)...)
	if len(Heard(l)) != mostLinks || len(Full(l)) != mostLinks || len(Links(l)) != mostLinks {
		t.Errorf("of %d neighbours: %v, %v, %v", len(l), Heard(l), Full(l), Links(l))
	}
	tells(t, l, saidByWords(l))
}

// Tb1, Tb2, R4: all calls, of all tables and of lists that are none, against the chapter's words, twice.
func TestWords(t *testing.T) {
	for range 2 {
		for _, l := range tables() {
			isRight(t, l)
		}
		for i, l := range none() {
			if i%7 == 0 {
				isRight(t, l)
			}
		}
	}
}

// anyNear is any neighbour that may be.
func anyNear(r *rand.Rand) api.Near {
	n := api.Near{Of: 1 + r.Intn(mostNode), Cost: r.Intn(3), Boot: r.Intn(3), Epoch: r.Intn(3)}
	if n.Cost > 0 && n.Boot > 0 && r.Intn(4) > 0 {
		n.Heard, n.Age = true, r.Intn(mostAge+1)
		n.Full = r.Intn(2) > 0
		n.Got = n.Full && r.Intn(2) > 0
	}
	return n
}

// follows fails if a table behind Set has anything else than it follows: what is set is found, others are as they were.
func follows(t *testing.T, l, next []api.Near, n api.Near) {
	t.Helper()
	checks(t, next, api.OK)
	finds(t, next, n.Of, n, true)
	for of := range mostNode + 2 {
		if of != n.Of {
			was, there := Find(l, of)
			finds(t, next, of, was, there)
		}
	}
}

// Tb3: whatever is set, in any order: what is set is found, others are as they were, and those that are full are heard.
func TestAnyOrder(t *testing.T) {
	many := map[api.Errno]int{}
	for run := range 200 {
		r := rand.New(rand.NewSource(int64(run)))
		var l []api.Near
		for range 60 {
			n := anyNear(r)
			want, err := setByWords(l, n)
			next := sets(t, l, n, want, err)
			many[err]++
			if err == api.OK {
				follows(t, l, next, n)
				l = next
			}
			tells(t, l, saidByWords(l))
			for i, of := range Full(l) {
				if !slices.ContainsFunc(Heard(l), func(h api.Heard) bool { return h.Of == of }) || Links(l)[i].To != of {
					t.Fatalf("%d is full, and not heard, or not linked: %+v", of, l)
				}
			}
		}
	}
	if many[api.OK] < 3000 || many[api.ErrFull] < 3000 {
		t.Errorf("answers: %v: too little happened", many)
	}
}

// Tb1, Tb2: any lists, most of which are no tables, against the chapter's words.
func TestAnyLists(t *testing.T) {
	r := rand.New(rand.NewSource(1))
	many := map[bool]int{}
	for range 2000 {
		var l []api.Near
		for range r.Intn(4) {
			l = append(l, anyNear(r))
		}
		if r.Intn(2) > 0 {
			slices.SortFunc(l, func(a, b api.Near) int { return a.Of - b.Of })
		}
		if len(l) > 0 && r.Intn(3) == 0 {
			w := wrong(1 + r.Intn(mostNode))
			l[r.Intn(len(l))] = w[r.Intn(len(w))]
		}
		many[may(l)]++
		isRight(t, l)
	}
	if many[true] < 300 || many[false] < 300 {
		t.Errorf("tables or not: %v: too few of one", many)
	}
}

// spoil writes over all of an answer's memory, also behind its end.
func spoil[T any](l []T, x T) {
	l = l[:cap(l)]
	for i := range l {
		l[i] = x
	}
}

// R3: nothing that is handed in is written to, also not behind its end; what is answered is new memory.
func TestMemory(t *testing.T) {
	for _, l := range tables() {
		for _, of := range upTo(mostNode) {
			// Behind the table stands more, which is not its own.
			long := append(slices.Clone(l), all(got, upTo(mostLinks)...)...)
			was := slices.Clone(long)
			in := long[:len(l)]
			want, _ := setByWords(l, heard(of))
			first, _ := Set(in, heard(of))
			second, _ := Set(in, heard(of))
			spoil(first, api.Near{Of: 99})
			if !slices.Equal(long, was) || !slices.Equal(second, want) {
				t.Fatalf("Set(%+v, of %d): memory is shared", l, of)
			}
			spoil(in, api.Near{Of: 99})
			spoil(long, api.Near{Of: 99})
			if !slices.Equal(second, want) {
				t.Fatalf("Set(%+v, of %d): what was handed in is kept", l, of)
			}
		}
	}
}

// R3: what is told of neighbours is new memory each time, and nothing is written to the table, or behind it.
func TestMemoryTold(t *testing.T) {
	for _, l := range tables() {
		long := append(slices.Clone(l), all(got, upTo(mostLinks)...)...)
		was := slices.Clone(long)
		in := long[:len(l)]
		is := said{heard: Heard(in), full: Full(in), links: Links(in)}
		spoil(Heard(in), api.Heard{Of: 99})
		spoil(Full(in), 99)
		spoil(Links(in), api.Link{To: 99})
		want := saidByWords(l)
		if !slices.Equal(long, was) || !slices.Equal(is.heard, want.heard) || !slices.Equal(is.full, want.full) || !slices.Equal(is.links, want.links) {
			t.Fatalf("%+v: memory is shared", l)
		}
		spoil(long, api.Near{Of: 99})
		if !slices.Equal(is.heard, want.heard) || !slices.Equal(is.full, want.full) || !slices.Equal(is.links, want.links) {
			t.Fatalf("%+v: what is told is not its own", l)
		}
	}
}
