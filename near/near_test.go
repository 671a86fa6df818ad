package near

import (
	"fmt"
	"math"
	"math/rand"
	"slices"
	"testing"

	"waymark/api"
)

// The greatest node, cost, start (and epoch), and age, by the document.
const (
	mostNode = 64
	mostCost = 1 << 30
	mostBoot = 1 << 30
	mostAge  = 4
)

// far are numbers that no part of a neighbour may have.
func far() []int {
	return []int{math.MinInt, math.MinInt + 1, -1 << 62, -1 << 32, -1 << 30, -65, -5, -2, -1, 1<<30 + 1, 1<<30 + 2, 1 << 31, 1 << 32,
		1<<32 + 1, 1<<32 + 2, 1 << 62, math.MaxInt - 1, math.MaxInt}
}

// edges are numbers at the edges of all parts of a neighbour, and far off them.
func edges() []int {
	return append(far(), 0, 1, 2, 3, 4, 5, 6, 63, 64, 65, 66, 128, 255, 256, 257, 65535, 65536, 1<<30-1, 1<<30)
}

// ways are all that Heard, Full and Got can be together.
func ways() [][3]bool {
	var l [][3]bool
	for _, h := range []bool{false, true} {
		for _, f := range []bool{false, true} {
			for _, g := range []bool{false, true} {
				l = append(l, [3]bool{h, f, g})
			}
		}
	}
	return l
}

// with is a neighbour in one of the ways.
func with(n api.Near, w [3]bool) api.Near {
	n.Heard, n.Full, n.Got = w[0], w[1], w[2]
	return n
}

// mixed are neighbours with numbers that may each be, in all ways: some of them go together, and some do not.
func mixed() []api.Near {
	var l []api.Near
	for _, of := range []int{1, 2, mostNode} {
		for _, cost := range []int{0, 1, 7, mostCost} {
			for _, boot := range []int{0, 1, 2, 9, mostBoot - 1, mostBoot} {
				for _, epoch := range []int{0, 3, mostBoot} {
					for age := range mostAge + 1 {
						for _, w := range ways() {
							l = append(l, with(api.Near{Of: of, Cost: cost, Boot: boot, Epoch: epoch, Age: age}, w))
						}
					}
				}
			}
		}
	}
	return l
}

// sound are those of the mixed ones that may be.
func sound() []api.Near {
	return slices.DeleteFunc(mixed(), func(n api.Near) bool { return !mayByWords(n) })
}

// wrong are neighbours that may not be: each with one number that is out of its bounds, and those that do not go together.
func wrong() []api.Near {
	l := []api.Near{{}}
	for _, n := range []api.Near{unheard, heard, full, got} {
		for _, x := range edges() {
			for i := range 5 {
				m := n
				*[]*int{&m.Of, &m.Cost, &m.Boot, &m.Epoch, &m.Age}[i] = x
				l = append(l, m)
			}
		}
	}
	l = append(l, mixed()...)
	return slices.DeleteFunc(l, mayByWords)
}

// Neighbours as they become, from one that was never heard up to one that got all, each with other numbers in each part.
var (
	unheard = api.Near{Of: 2, Cost: 3, Boot: 5, Epoch: 6}
	heard   = api.Near{Of: 2, Cost: 3, Boot: 5, Epoch: 6, Heard: true, Age: 1}
	full    = api.Near{Of: 2, Cost: 3, Boot: 5, Epoch: 6, Heard: true, Full: true, Age: 2}
	got     = api.Near{Of: 2, Cost: 3, Boot: 5, Epoch: 6, Heard: true, Full: true, Age: 3, Got: true}
)

// mayByWords tells, as the chapter words it, whether a neighbour may be.
func mayByWords(n api.Near) bool {
	return !slices.Contains([]bool{
		1 <= n.Of && n.Of <= mostNode,
		0 <= n.Cost && n.Cost <= mostCost,
		0 <= n.Boot && n.Boot <= mostBoot,
		0 <= n.Epoch && n.Epoch <= mostBoot,
		0 <= n.Age && n.Age <= mostAge,
		!n.Heard || 1 <= n.Boot,
		!n.Heard || 1 <= n.Cost,
		!n.Full || n.Heard,
		!n.Got || n.Full,
		n.Heard || n.Age == 0,
	}, false)
}

// answer is what a call answers; that of Tick and Cost has never Up.
type answer struct {
	N        api.Near
	Down, Up bool
	Err      api.Errno
}

// refused is what is answered beside ErrArg.
func refused() answer { return answer{Err: api.ErrArg} }

// helloByWords, tickByWords and costByWords answer as the chapter words it, one of its clauses behind the other.
func helloByWords(n api.Near, boot int, hears bool) answer {
	if !mayByWords(n) || boot < 1 || mostBoot < boot {
		return refused()
	}
	a := answer{N: n}
	if boot < n.Boot || n.Cost == 0 {
		return a
	}
	if boot > n.Boot {
		a.Down = n.Full
		a.N.Boot = boot
		a.N.Full = false
		a.N.Got = false
	}
	a.N.Heard = true
	a.N.Age = 0
	if hears && !a.N.Full {
		a.N.Full = true
		a.N.Got = false
		a.Up = true
	}
	if !hears && a.N.Full {
		a.N.Full = false
		a.N.Got = false
		a.Down = true
	}
	return a
}

func tickByWords(n api.Near) answer {
	if !mayByWords(n) {
		return refused()
	}
	a := answer{N: n}
	if !n.Heard {
		return a
	}
	a.N.Age++
	if a.N.Age > mostAge {
		return answer{N: api.Near{Of: n.Of, Cost: n.Cost, Boot: n.Boot, Epoch: n.Epoch}, Down: n.Full}
	}
	return a
}

func costByWords(n api.Near, cost int) answer {
	if !mayByWords(n) || cost < 0 || mostCost < cost {
		return refused()
	}
	if cost == 0 {
		return answer{N: api.Near{Of: n.Of, Boot: n.Boot, Epoch: n.Epoch}, Down: n.Full}
	}
	a := answer{N: n}
	a.N.Cost = cost
	return a
}

// hellos, ticks and costs fail if a call answers anything else, and tell what it answered.
func hellos(t *testing.T, n api.Near, boot int, hears bool, want answer) answer {
	t.Helper()
	m, down, up, e := Hello(n, boot, hears)
	is := answer{N: m, Down: down, Up: up, Err: e}
	if is != want {
		t.Errorf("Hello(%+v, %d, %v) = %+v, want %+v", n, boot, hears, is, want)
	}
	return is
}

func ticks(t *testing.T, n api.Near, want answer) answer {
	t.Helper()
	m, down, e := Tick(n)
	is := answer{N: m, Down: down, Err: e}
	if is != want {
		t.Errorf("Tick(%+v) = %+v, want %+v", n, is, want)
	}
	return is
}

func costs(t *testing.T, n api.Near, cost int, want answer) answer {
	t.Helper()
	m, down, e := Cost(n, cost)
	is := answer{N: m, Down: down, Err: e}
	if is != want {
		t.Errorf("Cost(%+v, %d) = %+v, want %+v", n, cost, is, want)
	}
	return is
}

// checks fails if Check answers anything else.
func checks(t *testing.T, n api.Near, want api.Errno) {
	t.Helper()
	if e := Check(n); e != want {
		t.Errorf("Check(%+v) = %d, want %d", n, e, want)
	}
}

// The chapter's example: a hello that hears, at once: up.
func TestExample(t *testing.T) {
	hellos(t, api.Near{Of: 2, Cost: 1}, 3, true, answer{N: api.Near{Of: 2, Cost: 1, Boot: 3, Heard: true, Full: true}, Up: true})
}

// Ne1: Check, at neighbours that may be, up to each edge of each number.
func TestCheckMayBe(t *testing.T) {
	if api.MaxNode != mostNode || api.MaxCost != mostCost || api.MaxBoot != mostBoot || api.MaxAge != mostAge {
		t.Fatalf("limits: %d, %d, %d, %d", api.MaxNode, api.MaxCost, api.MaxBoot, api.MaxAge)
	}
	for _, n := range []api.Near{
		unheard, heard, full, got,
		{Of: 1}, {Of: 2}, {Of: mostNode - 1}, {Of: mostNode},
		{Of: 1, Cost: 1}, {Of: 1, Cost: mostCost}, {Of: 1, Boot: 1}, {Of: 1, Boot: mostBoot}, {Of: 1, Epoch: 1}, {Of: 1, Epoch: mostBoot},
		{Of: mostNode, Cost: mostCost, Boot: mostBoot, Epoch: mostBoot},
		{Of: 1, Cost: 1, Boot: 1, Heard: true}, {Of: 1, Cost: 1, Boot: 1, Heard: true, Age: mostAge},
		{Of: 1, Cost: 1, Boot: 1, Heard: true, Full: true}, {Of: 1, Cost: 1, Boot: 1, Heard: true, Full: true, Got: true},
		{Of: mostNode, Cost: mostCost, Boot: mostBoot, Epoch: mostBoot, Heard: true, Full: true, Age: mostAge, Got: true},
	} {
		checks(t, n, api.OK)
	}
}

// Ne1: Check, at neighbours that may not be: each number out of its bounds, and what does not go together.
func TestCheckMayNotBe(t *testing.T) {
	for _, n := range []api.Near{
		{}, {Cost: 1, Boot: 1, Heard: true}, {Of: -1}, {Of: mostNode + 1}, {Of: 1, Cost: -1}, {Of: 1, Cost: mostCost + 1},
		{Of: 1, Boot: -1}, {Of: 1, Boot: mostBoot + 1}, {Of: 1, Epoch: -1}, {Of: 1, Epoch: mostBoot + 1},
		{Of: 1, Cost: 1, Boot: 1, Heard: true, Age: -1}, {Of: 1, Cost: 1, Boot: 1, Heard: true, Age: mostAge + 1},
		{Of: 1, Age: 1}, {Of: 1, Age: mostAge}, {Of: 1, Age: -1}, {Of: 1, Cost: 1, Boot: 1, Age: 1},
		{Of: 1, Heard: true}, {Of: 1, Cost: 1, Heard: true}, {Of: 1, Boot: 1, Heard: true},
		{Of: 1, Cost: 1, Boot: 1, Full: true}, {Of: 1, Cost: 1, Boot: 1, Got: true}, {Of: 1, Cost: 1, Boot: 1, Full: true, Got: true},
		{Of: 1, Cost: 1, Boot: 1, Heard: true, Got: true},
		{Of: 1, Cost: 1, Heard: true, Full: true, Got: true}, {Of: 1, Boot: 1, Heard: true, Full: true, Got: true},
	} {
		checks(t, n, api.ErrArg)
	}
}

// Ne1: Check, against the chapter's words, of one number or another at all edges, in all ways, and of all that go together or do not.
func TestCheckWords(t *testing.T) {
	many := map[api.Errno]int{}
	check := func(n api.Near) {
		want := api.ErrArg
		if mayByWords(n) {
			want = api.OK
		}
		checks(t, n, want)
		many[want]++
	}
	for _, n := range mixed() {
		check(n)
	}
	for _, n := range wrong() {
		check(n)
	}
	for _, w := range ways() {
		for _, x := range edges() {
			for _, y := range edges() {
				check(with(api.Near{Of: x, Cost: y, Boot: 1}, w))
				check(with(api.Near{Of: 1, Cost: x, Boot: y, Age: 1}, w))
				check(with(api.Near{Of: 1, Cost: 1, Boot: x, Epoch: y}, w))
				check(with(api.Near{Of: 1, Cost: 1, Boot: 1, Epoch: x, Age: y}, w))
			}
		}
	}
	if many[api.OK] < 1000 || many[api.ErrArg] < 1000 {
		t.Errorf("%v: the neighbours are too much alike", many)
	}
}

// Ne1: Hello, of the boot that is known: it is heard, of Age 0; it becomes full, stays so, or is so no more, by whether it hears.
func TestHelloSameBoot(t *testing.T) {
	isHeard, isFull, isGot := heard, full, got
	isHeard.Age, isFull.Age, isGot.Age = 0, 0, 0
	hellos(t, unheard, 5, false, answer{N: isHeard})
	hellos(t, unheard, 5, true, answer{N: isFull, Up: true})
	hellos(t, heard, 5, false, answer{N: isHeard})
	hellos(t, heard, 5, true, answer{N: isFull, Up: true})
	hellos(t, full, 5, true, answer{N: isFull})
	hellos(t, full, 5, false, answer{N: isHeard, Down: true})
	hellos(t, got, 5, true, answer{N: isGot})
	hellos(t, got, 5, false, answer{N: isHeard, Down: true})
}

// Ne1: Hello, of a greater boot: that is its Boot; one that was full goes down, also if it hears and so comes up again at once, and got nothing then.
func TestHelloGreaterBoot(t *testing.T) {
	for _, boot := range []int{6, 7, 1000, mostBoot - 1, mostBoot} {
		isHeard, isFull := heard, full
		isHeard.Boot, isHeard.Age = boot, 0
		isFull.Boot, isFull.Age = boot, 0
		hellos(t, unheard, boot, false, answer{N: isHeard})
		hellos(t, unheard, boot, true, answer{N: isFull, Up: true})
		hellos(t, heard, boot, false, answer{N: isHeard})
		hellos(t, heard, boot, true, answer{N: isFull, Up: true})
		for _, n := range []api.Near{full, got} {
			hellos(t, n, boot, false, answer{N: isHeard, Down: true})
			hellos(t, n, boot, true, answer{N: isFull, Down: true, Up: true})
		}
	}
}

// Ne1: Hello does nothing to it, not even to its Age, if boot is less than Boot, or its Cost is 0.
func TestHelloNothing(t *testing.T) {
	for _, hears := range []bool{false, true} {
		for _, n := range []api.Near{unheard, heard, full, got} {
			for boot := 1; boot < 5; boot++ {
				hellos(t, n, boot, hears, answer{N: n})
			}
		}
		for _, n := range []api.Near{{Of: 2}, {Of: 2, Boot: 5, Epoch: 6}, {Of: 2, Boot: mostBoot}} {
			for _, boot := range []int{1, 4, 5, 6, mostBoot - 1, mostBoot} {
				hellos(t, n, boot, hears, answer{N: n})
			}
		}
	}
}

// Ne1: Hello answers ErrArg, and nothing, if boot is none, whatever the neighbour; so it does where it would do nothing.
func TestHelloWrongBoot(t *testing.T) {
	for _, hears := range []bool{false, true} {
		for _, boot := range append(far(), 0) {
			for _, n := range []api.Near{unheard, heard, full, got, {Of: 2}, {Of: 2, Cost: 1}, {Of: 2, Boot: mostBoot}, {}} {
				hellos(t, n, boot, hears, refused())
			}
		}
	}
}

// Ne1: Tick, of one that is heard: Age is one more, up to MaxAge; then it is not heard, and down if it was full; of one that is not heard, nothing.
func TestTick(t *testing.T) {
	ticks(t, unheard, answer{N: unheard})
	ticks(t, api.Near{Of: 1}, answer{N: api.Near{Of: 1}})
	for _, n := range []api.Near{heard, full, got} {
		n.Age = 0
		for age := 1; age <= mostAge; age++ {
			m := n
			m.Age = age
			ticks(t, n, answer{N: m})
			n = m
		}
		ticks(t, n, answer{N: unheard, Down: n.Full})
	}
}

// Ne1: Cost 0: it is not heard, and down if it was full; any other cost turns nothing but Cost.
func TestCost(t *testing.T) {
	for _, n := range []api.Near{unheard, heard, full, got} {
		cut := unheard
		cut.Cost = 0
		costs(t, n, 0, answer{N: cut, Down: n.Full})
		for _, cost := range []int{1, 2, 3, 4, mostCost - 1, mostCost} {
			m := n
			m.Cost = cost
			costs(t, n, cost, answer{N: m})
			costs(t, cut, cost, answer{N: api.Near{Of: 2, Cost: cost, Boot: 5, Epoch: 6}})
		}
		for _, cost := range far() {
			costs(t, n, cost, refused())
			costs(t, api.Near{}, cost, refused())
		}
		costs(t, cut, 0, answer{N: cut})
	}
}

// Ne1, R1: of one that may not be, all is ErrArg, and nothing else, whatever is told of it.
func TestMayNotBe(t *testing.T) {
	l := wrong()
	if len(l) < 1000 {
		t.Errorf("only %d neighbours", len(l))
	}
	for _, n := range l {
		ticks(t, n, refused())
		for _, x := range []int{-1, 0, 1, n.Boot - 1, n.Boot, n.Boot + 1, n.Cost, mostBoot} {
			hellos(t, n, x, false, refused())
			hellos(t, n, x, true, refused())
			costs(t, n, x, refused())
		}
	}
}

// Ne1, Ne2, R4: all calls, of all neighbours that may be, against the chapter's words, twice: what becomes of it may be, and Boot is not less.
func TestWords(t *testing.T) {
	many := map[answer]int{}
	count := func(n api.Near, a answer) {
		many[answer{Down: a.Down, Up: a.Up, Err: a.Err}]++
		if a.Err == api.OK && (!mayByWords(a.N) || a.N.Boot < n.Boot || a.N.Of != n.Of || a.N.Epoch != n.Epoch) {
			t.Errorf("%+v became %+v", n, a.N)
		}
	}
	for range 2 {
		for _, n := range sound() {
			checks(t, n, api.OK)
			count(n, ticks(t, n, tickByWords(n)))
			for _, x := range append([]int{n.Boot - 1, n.Boot, n.Boot + 1, n.Cost - 1, n.Cost, n.Cost + 1}, edges()...) {
				count(n, costs(t, n, x, costByWords(n, x)))
				for _, hears := range []bool{false, true} {
					count(n, hellos(t, n, x, hears, helloByWords(n, x, hears)))
				}
			}
		}
	}
	for _, a := range []answer{{}, {Down: true}, {Up: true}, {Down: true, Up: true}, refused()} {
		if many[a] < 100 {
			t.Errorf("only %d answers of %+v", many[a], a)
		}
	}
}

// Ne2: any neighbour is full, and heard, for no more than MaxAge ticks behind each other; one that was just heard is so for just as many.
func TestTicksEnd(t *testing.T) {
	for _, n := range sound() {
		m, downs := n, 0
		for range mostAge + 1 {
			next, down, e := Tick(m)
			if e != api.OK || down != (m.Full && !next.Full) {
				t.Fatalf("Tick(%+v) = %+v, %v, %d", m, next, down, e)
			}
			if down {
				downs++
			}
			m = next
		}
		if m.Full || m.Heard || m.Got || (downs == 1) != n.Full {
			t.Fatalf("%+v is %+v behind all ticks, and went down %d times", n, m, downs)
		}
		if n.Heard && n.Age == 0 {
			staysFor(t, n, mostAge)
		}
	}
}

// staysFor fails if a neighbour is anything but older for so many ticks.
func staysFor(t *testing.T, n api.Near, many int) {
	t.Helper()
	for range many {
		m := n
		m.Age++
		n = ticks(t, n, answer{N: m}).N
	}
}

// Ne2: a hello that does nothing, of an older boot, keeps no neighbour full; nor does a cost, which leaves its Age.
func TestOldHellosEnd(t *testing.T) {
	n := got
	n.Age = 0
	for range mostAge {
		n, _, _ = Tick(n)
		n = hellos(t, n, 4, true, answer{N: n}).N
		n = costs(t, n, 3, answer{N: n}).N
	}
	ticks(t, n, answer{N: unheard, Down: true})
}

// A hello that counts, each time ahead of the last tick, keeps it full, and what it got, for good.
func TestHellosKeep(t *testing.T) {
	n := got
	n.Age = 0
	for range 50 {
		staysFor(t, n, mostAge)
		m := n
		m.Age = mostAge
		n = hellos(t, m, 5, true, answer{N: n}).N
	}
}

// life is a neighbour as long as something is told of it: how many ticks ago a hello counted, and how often it went down, and up.
type life struct {
	n                  api.Near
	silent, downs, ups int
}

// turn fails if what became of it does not follow from what it was, and takes it.
func (l *life) turn(t *testing.T, what string, a answer) {
	t.Helper()
	switch {
	case a.Err != api.OK:
		t.Fatalf("%s: %+v: %+v", what, l.n, a)
	case !mayByWords(a.N) || a.N.Boot < l.n.Boot || a.N.Of != l.n.Of || a.N.Epoch != l.n.Epoch:
		t.Fatalf("%s: %+v became %+v", what, l.n, a.N)
	case a.Down && !l.n.Full || a.Up && !a.N.Full || a.N.Full != (a.Up || l.n.Full && !a.Down):
		t.Fatalf("%s: %+v became %+v, down %v, up %v", what, l.n, a.N, a.Down, a.Up)
	case a.N.Got && (!l.n.Got || a.Down || a.Up):
		t.Fatalf("%s: %+v became %+v, and got what it did not", what, l.n, a.N)
	case l.silent > mostAge && (a.N.Full || a.N.Heard):
		t.Fatalf("%s: %d ticks without a hello, and it is %+v", what, l.silent, a.N)
	}
	l.n = a.N
	if a.Down {
		l.downs++
	}
	if a.Up {
		l.ups++
	}
}

// step tells anything of it, mostly ticks and hellos of boots about its own.
func (l *life) step(t *testing.T, r *rand.Rand) {
	t.Helper()
	switch kind := r.Intn(20); {
	case kind == 0:
		cost := r.Intn(3)
		l.turn(t, fmt.Sprint("cost ", cost), costs(t, l.n, cost, costByWords(l.n, cost)))
	case kind < 12:
		l.silent++
		l.turn(t, "tick", ticks(t, l.n, tickByWords(l.n)))
	case kind == 12:
		l.n.Got = l.n.Full
	default:
		boot, hears := max(1, l.n.Boot+[]int{-1, 0, 0, 0, 1}[r.Intn(5)]), r.Intn(3) > 0
		if boot >= l.n.Boot && l.n.Cost > 0 {
			l.silent = 0
		}
		l.turn(t, fmt.Sprint("hello ", boot, " ", hears), hellos(t, l.n, boot, hears, helloByWords(l.n, boot, hears)))
	}
}

// Ne1, Ne2: whatever is told of it, in any order, down and up say when it is full, and what becomes of it may be.
func TestAnyOrder(t *testing.T) {
	downs, ups := 0, 0
	for run := range 300 {
		r := rand.New(rand.NewSource(int64(run)))
		l := life{n: api.Near{Of: 1 + r.Intn(mostNode), Cost: r.Intn(2), Epoch: r.Intn(3)}}
		for range 300 {
			l.step(t, r)
		}
		if open := l.ups - l.downs; open != 0 && open != 1 || (open == 1) != l.n.Full {
			t.Fatalf("run %d: %d times up, %d times down, and it is %+v", run, l.ups, l.downs, l.n)
		}
		downs, ups = downs+l.downs, ups+l.ups
	}
	if downs < 3000 || ups < 3000 {
		t.Errorf("%d times down, %d times up: too little happened", downs, ups)
	}
}
