package cable

import (
	"bytes"
	"fmt"
	"math"
	"math/rand"
	"slices"
	"testing"

	"waymark/api"
	"waymark/queue"
)

// The greatest node, cost and number of texts, by the document.
const (
	mostNode = 64
	mostCost = 1 << 30
	mostWait = 32
)

// wrongCosts are costs that may not be.
func wrongCosts() []int {
	return []int{math.MinInt, math.MinInt + 1, -1 << 62, -1 << 32, -mostCost, -2, -1, 0, mostCost + 1, mostCost + 2, 1 << 31, 1 << 32,
		1<<32 + 1, 1 << 62, math.MaxInt - 1, math.MaxInt}
}

// soundCosts are costs that may be, the edges among them.
func soundCosts() []int { return []int{1, 2, 3, 255, 256, 65535, 65536, mostCost - 1, mostCost} }

// wrongNodes are nodes that no cable may have.
func wrongNodes() []int {
	return []int{math.MinInt, math.MinInt + 1, -1 << 32, -mostNode, -2, -1, 0, mostNode + 1, mostNode + 2, 128, 256 + 1, 256 + 2, 1<<16 + 2,
		1<<32 + 1, 1<<32 + 2, math.MaxInt - 1, math.MaxInt}
}

// strangers are nodes, and numbers that are none, that are none of a cable's.
func strangers(a, b int) []int {
	l := wrongNodes()
	for n := 1; n <= mostNode; n++ {
		if n != a && n != b {
			l = append(l, n)
		}
	}
	return append(l, -a, -b, a+b+mostNode, a+256, b+256, a+1<<32, b+1<<32)
}

// made is a cable that is there.
func made(t *testing.T, a, b int) *Cable {
	t.Helper()
	c, e := New(a, b)
	if c == nil || e != api.OK {
		t.Fatalf("New(%d, %d) = %v, %d", a, b, c, e)
	}
	return c
}

// upper is a cable that is up, and costs 3 and 4.
func upper(t *testing.T, a, b int) *Cable {
	t.Helper()
	c := made(t, a, b)
	sets(t, c, true, 3, 4, api.OK)
	return c
}

// sets and sends fail if a call answers anything else.
func sets(t *testing.T, c *Cable, up bool, costA, costB int, want api.Errno) {
	t.Helper()
	if e := c.Set(up, [2]int{costA, costB}); e != want {
		t.Fatalf("Set(%v, %d, %d) = %d, want %d", up, costA, costB, e, want)
	}
}

func sends(t *testing.T, c *Cable, from int, b []byte, want api.Errno) {
	t.Helper()
	if e := c.Send(from, b); e != want {
		t.Fatalf("Send(%d, %d) = %d, want %d", from, b, e, want)
	}
}

// is fails if a cable is anything else: whether it is up, and what it costs both.
func is(t *testing.T, c *Cable, a, b int, up bool, costA, costB int) {
	t.Helper()
	if x, y := c.Ends(); x != a || y != b {
		t.Fatalf("Ends() = %d, %d, want %d, %d", x, y, a, b)
	}
	if c.Up() != up {
		t.Fatalf("Up() = %v, want %v", c.Up(), up)
	}
	if x, y := c.Cost(a), c.Cost(b); x != costA || y != costB {
		t.Fatalf("Cost(%d), Cost(%d) = %d, %d, want %d, %d", a, b, x, y, costA, costB)
	}
}

// comes fails if anything but these texts, in order, is to come to a node.
func comes(t *testing.T, c *Cable, to int, want ...[]byte) {
	t.Helper()
	q := c.To(to)
	if q == nil {
		t.Fatalf("To(%d) = nil", to)
	}
	if got := q.All(); !slices.EqualFunc(got, want, bytes.Equal) {
		t.Fatalf("To(%d).All() = %d, want %d", to, got, want)
	}
}

// text is the text that stands for a number: no two are alike, and they are not all of one length.
func text(n int) []byte { return append([]byte{byte(n), byte(n >> 8)}, make([]byte, n%3)...) }

// Ca1: each cable of two nodes, the first one less than the second one, is there: not up, with two empty queues, and costs nobody anything.
func TestNew(t *testing.T) {
	if api.MaxNode != mostNode || api.MaxCost != mostCost || api.MaxQueue != mostWait {
		t.Fatalf("limits: %d, %d, %d", api.MaxNode, api.MaxCost, api.MaxQueue)
	}
	for a := 1; a <= mostNode; a++ {
		for b := a + 1; b <= mostNode; b++ {
			c := made(t, a, b)
			is(t, c, a, b, false, 0, 0)
			comes(t, c, a)
			comes(t, c, b)
			// No call tells the costs at first: what costs is set whenever it is set up.
			if c.costs != [2]int{1, 1} {
				t.Errorf("a new cable costs %d", c.costs)
			}
		}
	}
}

// Ca1: of all other pairs there is no cable: those that are not rising, and those with a number that is no node's.
func TestNewWrong(t *testing.T) {
	refused := func(a, b int) {
		t.Helper()
		if c, e := New(a, b); c != nil || e != api.ErrArg {
			t.Errorf("New(%d, %d) = %v, %d", a, b, c, e)
		}
	}
	for a := 1; a <= mostNode; a++ {
		for b := 1; b <= a; b++ {
			refused(a, b)
		}
		for _, n := range wrongNodes() {
			refused(a, n)
			refused(n, a)
		}
	}
	for _, n := range wrongNodes() {
		for _, m := range wrongNodes() {
			refused(n, m)
		}
	}
}

// Ca1: two cables of the same nodes are two.
func TestNewApart(t *testing.T) {
	c, d := made(t, 1, 2), made(t, 1, 2)
	sets(t, c, true, 5, 6, api.OK)
	sends(t, c, 1, text(1), api.OK)
	is(t, d, 1, 2, false, 0, 0)
	comes(t, d, 2)
	sets(t, d, true, 7, 8, api.OK)
	sends(t, d, 1, text(2), api.OK)
	sets(t, d, false, 7, 8, api.OK)
	is(t, c, 1, 2, true, 5, 6)
	comes(t, c, 2, text(1))
}

// Ca2: the chapter's example: not up, nothing can be sent.
func TestExample(t *testing.T) {
	c := made(t, 2, 5)
	sends(t, c, 2, []byte{7}, api.ErrNone)
	sends(t, c, 5, []byte{7}, api.ErrNone)
	comes(t, c, 2)
	comes(t, c, 5)
}

// Ca1: a cable that is up costs each of both what was set, at all edges of both; one that is not up costs nothing.
func TestSet(t *testing.T) {
	c := made(t, 2, 5)
	for _, x := range soundCosts() {
		for _, y := range soundCosts() {
			sets(t, c, true, x, y, api.OK)
			is(t, c, 2, 5, true, x, y)
			sets(t, c, false, y, x, api.OK)
			is(t, c, 2, 5, false, 0, 0)
			sets(t, c, true, y, x, api.OK)
			is(t, c, 2, 5, true, y, x)
		}
	}
}

// Ca1: a cable of the least and the greatest node costs each of both what was set.
func TestSetFarNodes(t *testing.T) {
	c := made(t, 1, mostNode)
	sets(t, c, true, 9, mostCost, api.OK)
	is(t, c, 1, mostNode, true, 9, mostCost)
}

// Ca1: a cost that may not be is refused, up or not, whichever of both it is; nothing turns by it.
func TestSetWrong(t *testing.T) {
	for _, up := range []bool{false, true} {
		c := made(t, 2, 5)
		costA, costB := 0, 0
		var want [][]byte
		if up {
			costA, costB, want = 3, 4, [][]byte{text(1), text(2)}
			sets(t, c, true, 3, 4, api.OK)
			for _, b := range want {
				sends(t, c, 2, b, api.OK)
				sends(t, c, 5, b, api.OK)
			}
		}
		for _, to := range []bool{false, true} {
			for _, x := range wrongCosts() {
				for _, y := range append(wrongCosts(), soundCosts()...) {
					sets(t, c, to, x, y, api.ErrArg)
					sets(t, c, to, y, x, api.ErrArg)
					is(t, c, 2, 5, up, costA, costB)
				}
			}
			comes(t, c, 2, want...)
			comes(t, c, 5, want...)
		}
	}
}

// Ca1: once it is not up, both queues are empty, and stay so when it is up again; set up while it is up, it keeps what is to come.
func TestSetQueues(t *testing.T) {
	c := upper(t, 2, 5)
	for n := range 3 {
		sends(t, c, 2, text(n), api.OK)
		sends(t, c, 5, text(n+10), api.OK)
	}
	sets(t, c, true, 8, 9, api.OK)
	is(t, c, 2, 5, true, 8, 9)
	comes(t, c, 5, text(0), text(1), text(2))
	comes(t, c, 2, text(10), text(11), text(12))
	sets(t, c, false, 8, 9, api.OK)
	comes(t, c, 5)
	comes(t, c, 2)
	sends(t, c, 2, text(1), api.ErrNone)
	sets(t, c, true, 8, 9, api.OK)
	comes(t, c, 5)
	comes(t, c, 2)
	sends(t, c, 2, text(20), api.OK)
	comes(t, c, 5, text(20))
	comes(t, c, 2)
}

// Ca1: each of both queues is emptied, also if it alone has something.
func TestSetEachQueue(t *testing.T) {
	for _, from := range []int{2, 5} {
		c := upper(t, 2, 5)
		sends(t, c, from, text(1), api.OK)
		sets(t, c, false, 3, 4, api.OK)
		comes(t, c, 2)
		comes(t, c, 5)
		sets(t, c, false, 3, 4, api.OK)
		comes(t, c, 2)
		comes(t, c, 5)
	}
}

// Ca1: a node that is none of its costs nothing, up or not.
func TestCostOfStrangers(t *testing.T) {
	for _, ends := range [][2]int{{1, 2}, {2, 5}, {1, mostNode}, {63, mostNode}} {
		c := made(t, ends[0], ends[1])
		for _, up := range []bool{false, true} {
			sets(t, c, up, 3, 4, api.OK)
			for _, n := range strangers(ends[0], ends[1]) {
				if x := c.Cost(n); x != 0 {
					t.Errorf("cable %d: Cost(%d) = %d", ends, n, x)
				}
			}
		}
	}
}

// Ca2: what one sends comes to the other one, behind what came ahead, and to that one alone.
func TestSend(t *testing.T) {
	c := upper(t, 2, 5)
	var first, second [][]byte
	for n := range mostWait {
		sends(t, c, 2, text(n), api.OK)
		second = append(second, text(n))
		comes(t, c, 2, first...)
		comes(t, c, 5, second...)
		sends(t, c, 5, text(n+100), api.OK)
		first = append(first, text(n+100))
		comes(t, c, 2, first...)
		comes(t, c, 5, second...)
	}
}

// Ca2: 32 texts wait each way, and no more; what is refused turns nothing, and the other way has its own room; there is room again behind a take.
func TestSendFull(t *testing.T) {
	for _, ends := range [][2]int{{2, 5}, {5, 2}} {
		from, to := ends[0], ends[1]
		c := upper(t, 2, 5)
		var want [][]byte
		for n := range mostWait {
			sends(t, c, from, text(n), api.OK)
			want = append(want, text(n))
		}
		for range 2 {
			sends(t, c, from, text(99), api.ErrFull)
			sends(t, c, from, nil, api.ErrFull)
		}
		comes(t, c, to, want...)
		comes(t, c, from)
		sends(t, c, to, text(77), api.OK)
		comes(t, c, from, text(77))
		if b, e := c.To(to).Take(3); !bytes.Equal(b, text(3)) || e != api.OK {
			t.Fatalf("Take(3) = %d, %d", b, e)
		}
		sends(t, c, from, text(66), api.OK)
		comes(t, c, to, append(slices.Delete(want, 3, 4), text(66))...)
		sends(t, c, from, text(99), api.ErrFull)
		sets(t, c, false, 1, 1, api.OK)
		sends(t, c, from, text(99), api.ErrNone)
		sets(t, c, true, 1, 1, api.OK)
		sends(t, c, from, text(55), api.OK)
		comes(t, c, to, text(55))
	}
}

// Ca2: nobody but its nodes sends over a cable: ErrArg, up, full or not up; nothing turns by it.
func TestSendOfStrangers(t *testing.T) {
	for _, ends := range [][2]int{{1, 2}, {2, 5}, {1, mostNode}, {63, mostNode}} {
		a, b := ends[0], ends[1]
		c := made(t, a, b)
		for _, n := range strangers(a, b) {
			sends(t, c, n, text(1), api.ErrArg)
			sends(t, c, n, nil, api.ErrArg)
		}
		comes(t, c, a)
		comes(t, c, b)
		sets(t, c, true, 3, 4, api.OK)
		for _, n := range strangers(a, b) {
			sends(t, c, n, text(1), api.ErrArg)
		}
		comes(t, c, a)
		comes(t, c, b)
		for range mostWait {
			sends(t, c, a, text(1), api.OK)
			sends(t, c, b, text(2), api.OK)
		}
		for _, n := range strangers(a, b) {
			sends(t, c, n, text(1), api.ErrArg)
		}
		comes(t, c, a, slices.Repeat([][]byte{text(2)}, mostWait)...)
		comes(t, c, b, slices.Repeat([][]byte{text(1)}, mostWait)...)
	}
}

// Ca2, R5: texts may have any bytes, any length, or none.
func TestSendAnyText(t *testing.T) {
	l := [][]byte{nil, {0}, {255, 0}, {}, bytes.Repeat([]byte{9}, 1<<16+1), {1}}
	c := upper(t, 2, 5)
	for _, b := range l {
		sends(t, c, 5, b, api.OK)
	}
	comes(t, c, 2, l...)
	comes(t, c, 5)
}

// Ca2: a node that is none of its has no queue, up or not.
func TestToOfStrangers(t *testing.T) {
	for _, ends := range [][2]int{{1, 2}, {2, 5}, {1, mostNode}, {63, mostNode}} {
		c := made(t, ends[0], ends[1])
		for _, up := range []bool{false, true} {
			sets(t, c, up, 3, 4, api.OK)
			for _, n := range strangers(ends[0], ends[1]) {
				if q := c.To(n); q != nil {
					t.Errorf("cable %d: To(%d) = %v", ends, n, q)
				}
			}
		}
	}
}

// Ca2: the queue that To answers is the cable's own: what is done to it is done to what is to come, and it stays the cable's own whatever is set.
func TestToIsItsOwn(t *testing.T) {
	c := upper(t, 2, 5)
	first, second := c.To(2), c.To(5)
	if first == second {
		t.Fatal("both ways are one queue")
	}
	sends(t, c, 2, text(1), api.OK)
	sends(t, c, 2, text(2), api.OK)
	if e := second.Again(0); e != api.OK {
		t.Fatalf("Again(0) = %d", e)
	}
	if e := second.Drop(1); e != api.OK {
		t.Fatalf("Drop(1) = %d", e)
	}
	comes(t, c, 5, text(1), text(1))
	comes(t, c, 2)
	sets(t, c, false, 3, 4, api.OK)
	if l := second.All(); len(l) != 0 {
		t.Fatalf("not up, %d is to come", l)
	}
	sets(t, c, true, 3, 4, api.OK)
	sends(t, c, 2, text(3), api.OK)
	sends(t, c, 5, text(4), api.OK)
	if l := second.All(); len(l) != 1 || !bytes.Equal(l[0], text(3)) {
		t.Fatalf("the second one's queue has %d", l)
	}
	if l := first.All(); len(l) != 1 || !bytes.Equal(l[0], text(4)) {
		t.Fatalf("the first one's queue has %d", l)
	}
	if c.To(2) != first || c.To(5) != second {
		t.Fatal("a cable's queue is another one now")
	}
}

// R1: of no cable, and of one that New did not give, all is nothing, and ErrState, whatever it is asked for; nothing makes it one.
func TestNobodys(t *testing.T) {
	var zero Cable
	for _, c := range []*Cable{nil, {}, &zero, new(Cable)} {
		for range 2 {
			for _, up := range []bool{true, false} {
				for _, x := range append(wrongCosts(), soundCosts()...) {
					sets(t, c, up, x, 1, api.ErrState)
					sets(t, c, up, 1, x, api.ErrState)
				}
			}
			if a, b := c.Ends(); a != 0 || b != 0 {
				t.Errorf("Ends() = %d, %d", a, b)
			}
			if c.Up() {
				t.Error("Up() = true")
			}
			for _, n := range append(wrongNodes(), 1, 2, 5, mostNode) {
				if x := c.Cost(n); x != 0 {
					t.Errorf("Cost(%d) = %d", n, x)
				}
				sends(t, c, n, text(1), api.ErrState)
				sends(t, c, n, nil, api.ErrState)
				if q := c.To(n); q != nil {
					t.Errorf("To(%d) = %v", n, q)
				}
			}
		}
	}
}

// R3: what is sent is not written to, nor kept: turned behind the call, it turns nothing that is to come.
func TestSendCopies(t *testing.T) {
	c := upper(t, 2, 5)
	b := make([]byte, 3, 9)
	copy(b, []byte{1, 2, 3})
	sends(t, c, 2, b, api.OK)
	if !bytes.Equal(b[:9], []byte{1, 2, 3, 0, 0, 0, 0, 0, 0}) {
		t.Errorf("Send wrote: %d", b[:9])
	}
	b[0] = 99
	sends(t, c, 5, b, api.OK)
	b[1] = 98
	comes(t, c, 5, []byte{1, 2, 3})
	comes(t, c, 2, []byte{99, 2, 3})
}

// byWords is a cable as the chapter words it, with what is to come to each of its nodes.
type byWords struct {
	a, b  int
	up    bool
	costs map[int]int
	come  map[int][]string
}

func (w *byWords) other(n int) int {
	switch n {
	case w.a:
		return w.b
	case w.b:
		return w.a
	}
	return 0
}

func (w *byWords) cost(of int) int {
	if !w.up {
		return 0
	}
	return w.costs[of]
}

func (w *byWords) set(up bool, x, y int) api.Errno {
	if x < 1 || x > mostCost || y < 1 || y > mostCost {
		return api.ErrArg
	}
	w.up = up
	w.costs = map[int]int{w.a: x, w.b: y}
	if !up {
		w.come = map[int][]string{}
	}
	return api.OK
}

func (w *byWords) send(from int, b []byte) api.Errno {
	to := w.other(from)
	switch {
	case to == 0:
		return api.ErrArg
	case !w.up:
		return api.ErrNone
	case len(w.come[to]) == mostWait:
		return api.ErrFull
	}
	w.come[to] = append(w.come[to], string(b))
	return api.OK
}

func (w *byWords) take(to, i int) (string, api.Errno) {
	l := w.come[to]
	if i < 0 || i >= len(l) {
		return "", api.ErrNone
	}
	b := l[i]
	w.come[to] = append(append([]string{}, l[:i]...), l[i+1:]...)
	return b, api.OK
}

// anyNode is mostly one of a cable's nodes.
func anyNode(r *rand.Rand, w *byWords) int {
	switch r.Intn(9) {
	case 0:
		return r.Intn(70) - 2
	case 1, 2, 3, 4:
		return w.a
	}
	return w.b
}

// anyCost is mostly one that may be.
func anyCost(r *rand.Rand) int {
	switch r.Intn(12) {
	case 0:
		return wrongCosts()[r.Intn(len(wrongCosts()))]
	case 1, 2:
		return soundCosts()[r.Intn(len(soundCosts()))]
	}
	return 1 + r.Intn(mostCost)
}

// step does any call to a cable and to one by the chapter's words, and tells what it was, and both answers.
func step(r *rand.Rand, c *Cable, w *byWords) (name, got, want string) {
	switch kind := r.Intn(60); {
	case kind < 2:
		up, x, y := r.Intn(3) > 0, anyCost(r), anyCost(r)
		return fmt.Sprintf("Set(%v, %d, %d)", up, x, y), fmt.Sprint(c.Set(up, [2]int{x, y})), fmt.Sprint(w.set(up, x, y))
	case kind < 10:
		to, i := w.a, r.Intn(mostWait)
		if r.Intn(2) == 0 {
			to = w.b
		}
		b, e := c.To(to).Take(i)
		s, f := w.take(to, i)
		return fmt.Sprintf("To(%d).Take(%d)", to, i), fmt.Sprint(string(b), e), fmt.Sprint(s, f)
	}
	b := make([]byte, r.Intn(5))
	r.Read(b)
	from := anyNode(r, w)
	return fmt.Sprintf("Send(%d, %d)", from, b), fmt.Sprint(c.Send(from, b)), fmt.Sprint(w.send(from, b))
}

// texts is what is in a queue.
func texts(q *queue.Queue) []string {
	var l []string
	for _, b := range q.All() {
		l = append(l, string(b))
	}
	return l
}

// differs tells how a cable differs from one by the chapter's words, or nothing.
func differs(c *Cable, w *byWords) string {
	if a, b := c.Ends(); a != w.a || b != w.b {
		return fmt.Sprintf("Ends() = %d, %d", a, b)
	}
	if c.Up() != w.up {
		return fmt.Sprintf("Up() = %v", c.Up())
	}
	for n := -1; n <= mostNode+1; n++ {
		if c.Cost(n) != w.cost(n) {
			return fmt.Sprintf("Cost(%d) = %d, want %d", n, c.Cost(n), w.cost(n))
		}
		q := c.To(n)
		if (q == nil) != (w.other(n) == 0) {
			return fmt.Sprintf("To(%d) = %v", n, q)
		}
		if q != nil && !slices.Equal(texts(q), w.come[n]) {
			return fmt.Sprintf("To(%d) has %q, want %q", n, texts(q), w.come[n])
		}
	}
	return ""
}

// Ca1, Ca2, R4: any calls, one behind the other, answer as the chapter words it, and leave what it says; the same calls answer the same.
func TestAnyCalls(t *testing.T) {
	full := 0
	for run := range 120 {
		r := rand.New(rand.NewSource(int64(run)))
		a := 1 + r.Intn(mostNode-1)
		b := a + 1 + r.Intn(mostNode-a)
		c, w := made(t, a, b), &byWords{a: a, b: b, come: map[int][]string{}}
		sets(t, c, true, 1, 2, w.set(true, 1, 2))
		for range 200 {
			name, got, want := step(r, c, w)
			if got != want {
				t.Fatalf("cable %d, %d: %s = %q, want %q", a, b, name, got, want)
			}
			if d := differs(c, w); d != "" {
				t.Fatalf("cable %d, %d: behind %s: %s", a, b, name, d)
			}
			if len(w.come[a]) == mostWait || len(w.come[b]) == mostWait {
				full++
			}
		}
	}
	if full < 500 {
		t.Errorf("only %d times was a queue full", full)
	}
}
