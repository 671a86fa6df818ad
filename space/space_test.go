package space

import (
	"fmt"
	"math"
	"math/big"
	"math/rand"
	"testing"

	"waymark/api"
)

// last is the last number that there is.
const last = 1 << 62

// edges are numbers at the edges that spaces have, and far off them.
var edges = []int{
	math.MinInt, math.MinInt + 1, -last - 1, -last, -1 << 31, -9, -8, -7, -2, -1, 0, 1, 2, 3, 6, 7, 8, 9, 10, 15, 16, 17, 18, 24, 25,
	1<<31 - 1, 1 << 31, 1<<32 - 1, 1 << 32, 1<<32 + 1, 1<<53 + 1, last - 17, last - 16, last - 9, last - 8, last - 7, last - 6, last - 2,
	last - 1, last, last + 1, last + 2, last + 7, last + 8, math.MaxInt - 8, math.MaxInt - 7, math.MaxInt - 1, math.MaxInt,
}

// at is a space.
func at(next, upto int) api.Space { return api.Space{Next: next, Upto: upto} }

// isIn tells whether a number is within two others, and more is a sum: neither goes round.
func isIn(n, low, high *big.Int) bool { return low.Cmp(n) <= 0 && n.Cmp(high) <= 0 }
func more(n, by int) *big.Int         { return new(big.Int).Add(big.NewInt(int64(n)), big.NewInt(int64(by))) }

// may tells, as the chapter words it, whether a space may be.
func may(s api.Space) bool {
	upto := isIn(more(s.Upto, 0), more(0, 0), more(last, 0))
	return upto && isIn(more(s.Next, 0), more(1, 0), more(s.Upto, 1))
}

// afterByWords, takeByWords, wantByWords and grantByWords answer as the chapter words it.
func afterByWords(upto int) (api.Space, api.Errno) {
	if !isIn(more(upto, 0), more(0, 0), more(last, 0)) {
		return at(0, 0), api.ErrArg
	}
	return at(int(more(upto, 1).Int64()), upto), api.OK
}

func takeByWords(s api.Space) (int, api.Space, api.Errno) {
	switch {
	case !may(s):
		return 0, at(0, 0), api.ErrArg
	case s.Next > s.Upto:
		return 0, at(0, 0), api.ErrNone
	}
	return s.Next, at(int(more(s.Next, 1).Int64()), s.Upto), api.OK
}

func wantByWords(s api.Space) (int, api.Errno) {
	switch {
	case !may(s):
		return 0, api.ErrArg
	case s.Next > last:
		return 0, api.ErrSpent
	case more(s.Next, 7).Cmp(more(last, 0)) > 0:
		return last, api.OK
	}
	return int(more(s.Next, 7).Int64()), api.OK
}

func grantByWords(s api.Space, upto int) (api.Space, api.Errno) {
	if !may(s) || !isIn(more(upto, 0), more(s.Upto, 1), more(last, 0)) {
		return at(0, 0), api.ErrArg
	}
	return at(s.Next, upto), api.OK
}

// afters, takes, wants and grants fail if a call answers anything else.
func afters(t *testing.T, upto int, want api.Space, err api.Errno) {
	t.Helper()
	if s, e := After(upto); s != want || e != err {
		t.Errorf("After(%d) = %v, %d, want %v, %d", upto, s, e, want, err)
	}
}

func takes(t *testing.T, s api.Space, n int, want api.Space, err api.Errno) {
	t.Helper()
	if k, is, e := Take(s); k != n || is != want || e != err {
		t.Errorf("Take(%v) = %d, %v, %d, want %d, %v, %d", s, k, is, e, n, want, err)
	}
}

func wants(t *testing.T, s api.Space, n int, err api.Errno) {
	t.Helper()
	if k, e := Want(s); k != n || e != err {
		t.Errorf("Want(%v) = %d, %d, want %d, %d", s, k, e, n, err)
	}
}

func grants(t *testing.T, s api.Space, upto int, want api.Space, err api.Errno) {
	t.Helper()
	if is, e := Grant(s, upto); is != want || e != err {
		t.Errorf("Grant(%v, %d) = %v, %d, want %v, %d", s, upto, is, e, want, err)
	}
}

// spaces are all that have edges' numbers, and those whose Next is near their Upto; of both kinds some may not be.
func spaces() []api.Space {
	var l []api.Space
	for _, upto := range edges {
		for _, next := range edges {
			l = append(l, at(next, upto))
		}
		for d := -9; d <= 9; d++ {
			l = append(l, at(upto+d, upto))
		}
	}
	return l
}

// none are spaces that may not be.
func none() []api.Space {
	return []api.Space{
		{}, at(0, 5), at(-1, 5), at(math.MinInt, 5), at(7, 5), at(8, 5), at(2, 0), at(math.MaxInt, 5),
		at(1, -1), at(0, -1), at(1, -2), at(-1, -1), at(-1, -2), at(math.MinInt, math.MinInt), at(1, math.MinInt),
		at(last+2, last), at(math.MaxInt, last), at(1, last+1), at(last, last+1), at(last+1, last+1), at(last+2, last+1),
		at(1, math.MaxInt), at(math.MaxInt, math.MaxInt), at(math.MinInt, math.MaxInt), at(math.MaxInt, math.MaxInt-1),
	}
}

// The chapter's example: After 0 none is left; granted 8, 1 is taken.
func TestExample(t *testing.T) {
	s, _ := After(0)
	takes(t, s, 0, at(0, 0), api.ErrNone)
	wants(t, s, 8, api.OK)
	s, _ = Grant(s, 8)
	takes(t, s, 1, at(2, 8), api.OK)
}

// Sp1: After, at numbers that are known, and its edges.
func TestAfterKnown(t *testing.T) {
	for upto, next := range map[int]int{0: 1, 1: 2, 7: 8, 8: 9, 16: 17, 1<<31 - 1: 1 << 31, 1<<32 - 1: 1 << 32, last - 1: last, last: last + 1} {
		afters(t, upto, at(next, upto), api.OK)
	}
	for _, upto := range []int{-1, -2, -8, -last, math.MinInt, math.MinInt + 1, last + 1, last + 2, math.MaxInt - 1, math.MaxInt} {
		afters(t, upto, at(0, 0), api.ErrArg)
	}
}

// Sp1: Take, at spaces that are known, up to the last number that there is.
func TestTakeKnown(t *testing.T) {
	for _, c := range []struct {
		s    api.Space
		n    int
		want api.Space
	}{
		{at(1, 1), 1, at(2, 1)}, {at(1, 8), 1, at(2, 8)}, {at(7, 8), 7, at(8, 8)}, {at(8, 8), 8, at(9, 8)}, {at(17, 24), 17, at(18, 24)},
		{at(1, last), 1, at(2, last)}, {at(1<<32-1, 1<<32), 1<<32 - 1, at(1<<32, 1<<32)},
		{at(last-1, last), last - 1, at(last, last)}, {at(last, last), last, at(last+1, last)},
	} {
		takes(t, c.s, c.n, c.want, api.OK)
	}
}

// Sp1: Take answers ErrNone, and nothing else, of a space none of whose numbers is left.
func TestTakeNone(t *testing.T) {
	for _, s := range []api.Space{at(1, 0), at(2, 1), at(9, 8), at(17, 16), at(1<<32+1, 1<<32), at(last, last-1), at(last+1, last)} {
		takes(t, s, 0, at(0, 0), api.ErrNone)
	}
}

// Sp1: Want, at spaces that are known: it hangs on Next alone, whatever is left, and goes up to the last number that there is.
func TestWantKnown(t *testing.T) {
	for _, c := range []struct {
		s api.Space
		n int
	}{
		{at(1, 0), 8}, {at(2, 1), 9}, {at(9, 8), 16}, {at(17, 16), 24}, {at(1, 8), 8}, {at(5, 8), 12}, {at(8, 8), 15}, {at(1, 100), 8},
		{at(1, last), 8}, {at(1<<32, 1<<32), 1<<32 + 7}, {at(last-8, last-9), last - 1}, {at(last-7, last-8), last}, {at(last-6, last-7), last},
		{at(last-5, last), last}, {at(last-1, last-2), last}, {at(last, last-1), last}, {at(last, last), last},
	} {
		wants(t, c.s, c.n, api.OK)
	}
}

// Sp1: Want answers ErrSpent of the one space that has had all numbers.
func TestWantSpent(t *testing.T) {
	wants(t, at(last+1, last), 0, api.ErrSpent)
	s, _ := After(last)
	wants(t, s, 0, api.ErrSpent)
}

// Sp1: Grant, at spaces that are known; what is granted is above Upto, up to the last number that there is.
func TestGrantKnown(t *testing.T) {
	for _, c := range []struct {
		s    api.Space
		upto int
	}{
		{at(1, 0), 1}, {at(1, 0), 8}, {at(1, 0), last}, {at(9, 8), 9}, {at(9, 8), 16}, {at(5, 8), 9}, {at(1, 8), 1 << 40},
		{at(last, last-1), last}, {at(1, last-1), last},
	} {
		grants(t, c.s, c.upto, at(c.s.Next, c.upto), api.OK)
	}
	for _, c := range []struct {
		s    api.Space
		upto int
	}{
		{at(1, 0), 0}, {at(1, 0), -1}, {at(1, 0), math.MinInt}, {at(1, 0), last + 1}, {at(1, 0), math.MaxInt},
		{at(9, 8), 8}, {at(9, 8), 7}, {at(9, 8), 0}, {at(5, 8), 8}, {at(5, 8), 6}, {at(5, 8), 5}, {at(9, 8), -9},
		{at(last+1, last), last}, {at(last+1, last), last + 1}, {at(last+1, last), last - 1}, {at(1, last), last}, {at(1, last), last + 1},
	} {
		grants(t, c.s, c.upto, at(0, 0), api.ErrArg)
	}
}

// Sp1: of a space that may not be all is ErrArg, ahead of ErrNone and ErrSpent.
func TestMayNotBe(t *testing.T) {
	for _, s := range none() {
		takes(t, s, 0, at(0, 0), api.ErrArg)
		wants(t, s, 0, api.ErrArg)
		for _, upto := range []int{1, 8, 100, last - 1, last, math.MaxInt} {
			grants(t, s, upto, at(0, 0), api.ErrArg)
		}
	}
}

// Sp1: all calls, of spaces and numbers at all edges, against the chapter's words.
func TestWords(t *testing.T) {
	for _, n := range edges {
		want, e := afterByWords(n)
		afters(t, n, want, e)
	}
	answers := map[api.Errno]int{}
	for _, s := range spaces() {
		n, want, e := takeByWords(s)
		takes(t, s, n, want, e)
		answers[e]++
		n, e = wantByWords(s)
		wants(t, s, n, e)
		answers[e]++
		for _, upto := range append([]int{s.Upto - 1, s.Upto, s.Upto + 1, s.Next - 1, s.Next, s.Next + 1}, edges...) {
			want, e := grantByWords(s, upto)
			grants(t, s, upto, want, e)
			answers[e]++
		}
	}
	if answers[api.OK] < 2000 || answers[api.ErrArg] < 2000 || answers[api.ErrNone] < 10 || answers[api.ErrSpent] < 1 {
		t.Errorf("%v: the spaces are too much alike", answers)
	}
}

// Sp1: all calls, of all small spaces, against the chapter's words.
func TestSmall(t *testing.T) {
	for upto := -3; upto <= 30; upto++ {
		want, e := afterByWords(upto)
		afters(t, upto, want, e)
		for next := -3; next <= 35; next++ {
			s := at(next, upto)
			n, want, e := takeByWords(s)
			takes(t, s, n, want, e)
			n, e = wantByWords(s)
			wants(t, s, n, e)
			for to := -3; to <= 35; to++ {
				want, e := grantByWords(s, to)
				grants(t, s, to, want, e)
			}
		}
	}
}

// Sp1: once what is wanted is granted, eight numbers are there from Next on, or all that there are.
func TestBlock(t *testing.T) {
	for _, upto := range []int{0, 1, 8, 16, 1 << 32, last - 9, last - 8, last - 7, last - 3, last - 1} {
		s, _ := After(upto)
		n, _ := Want(s)
		s, e := Grant(s, n)
		if e != api.OK {
			t.Fatalf("After %d: what is wanted, %d, is not granted: %d", upto, n, e)
		}
		for i := range min(8, last-upto) {
			takes(t, s, upto+1+i, at(upto+2+i, n), api.OK)
			_, s, _ = Take(s)
		}
		takes(t, s, 0, at(0, 0), api.ErrNone)
	}
}

// life is a space, as long as something is done with it: what was granted last, what was taken last, and how many were.
type life struct {
	s                    api.Space
	granted, taken, many int
}

// take takes a number, if one is left, and fails if it does not rise, or is above what was granted.
func (l *life) take(t *testing.T, what string) {
	t.Helper()
	k, s, e := Take(l.s)
	if e == api.ErrNone {
		return
	}
	if e != api.OK || k <= l.taken || k > l.granted {
		t.Fatalf("%s: %d taken of %v, %d, behind %d, and granted up to %d", what, k, l.s, e, l.taken, l.granted)
	}
	l.s, l.taken = s, k
	l.many++
}

// grant grants numbers; what is refused turns nothing.
func (l *life) grant(upto int) {
	if s, e := Grant(l.s, upto); e == api.OK {
		l.s, l.granted = s, upto
	}
}

// anew begins behind the last number that was granted.
func (l *life) anew(t *testing.T, what string) {
	t.Helper()
	s, e := After(l.granted)
	if e != api.OK {
		t.Fatalf("%s: After(%d) = %d", what, l.granted, e)
	}
	l.s = s
}

// Sp2: whatever is taken and granted, and however often it begins anew, numbers rise, none is above what was granted, and none comes twice.
func TestRise(t *testing.T) {
	r := rand.New(rand.NewSource(13))
	many := 0
	for try := range 400 {
		from := []int{0, r.Intn(1000), 1<<32 - r.Intn(50), last - r.Intn(300)}[try%4]
		s, _ := After(from)
		l := life{s: s, granted: from, taken: from}
		for i := range 200 {
			what := fmt.Sprint("try ", try, ", step ", i)
			switch r.Intn(8) {
			case 0:
				n, _ := Want(l.s)
				l.grant(n)
			case 1:
				l.grant(l.granted - 3 + r.Intn(20))
			case 2:
				l.grant(edges[r.Intn(len(edges))] % (l.granted + 1000))
			case 3:
				if r.Intn(4) == 0 {
					l.anew(t, what)
				}
			default:
				l.take(t, what)
			}
		}
		many += l.many
	}
	if many < 20000 {
		t.Errorf("%d taken in all", many)
	}
}

// Sp2: all numbers that are granted are taken, each once, if it does not begin anew; if it does, those that were left never come.
func TestAllOnce(t *testing.T) {
	s, _ := After(0)
	for n := 1; n <= 100; n++ {
		if _, _, e := Take(s); e == api.ErrNone {
			upto, _ := Want(s)
			s, _ = Grant(s, upto)
		}
		k, next, e := Take(s)
		if k != n || e != api.OK {
			t.Fatalf("%d taken, %d, want %d", k, e, n)
		}
		s = next
	}
	if s != at(101, 104) {
		t.Errorf("a space of %v is left", s)
	}
	s, _ = After(s.Upto)
	takes(t, s, 0, at(0, 0), api.ErrNone)
	s, _ = Grant(s, 112)
	takes(t, s, 105, at(106, 112), api.OK)
}

// Sp2: once the last number that there is was taken, or only granted, nothing is taken any more, however often it begins anew.
func TestSpent(t *testing.T) {
	for _, taken := range []int{0, 1, 3} {
		s, _ := After(last - 3)
		upto, _ := Want(s)
		s, e := Grant(s, upto)
		if upto != last || e != api.OK {
			t.Fatalf("%d wanted, and granted with %d", upto, e)
		}
		for i := range taken {
			takes(t, s, last-2+i, at(last-1+i, last), api.OK)
			_, s, _ = Take(s)
		}
		for range 3 {
			s, e = After(last)
			if e != api.OK {
				t.Fatalf("After the last one: %d", e)
			}
			takes(t, s, 0, at(0, 0), api.ErrNone)
			wants(t, s, 0, api.ErrSpent)
			grants(t, s, last, at(0, 0), api.ErrArg)
			grants(t, s, last+1, at(0, 0), api.ErrArg)
		}
	}
}

// R4: what is answered hangs on the arguments alone.
func TestAgain(t *testing.T) {
	for range 2 {
		takes(t, at(5, 8), 5, at(6, 8), api.OK)
		grants(t, at(5, 8), 16, at(5, 16), api.OK)
		wants(t, at(5, 8), 12, api.OK)
		afters(t, 8, at(9, 8), api.OK)
		for _, s := range spaces() {
			Take(s)
			Want(s)
			Grant(s, s.Upto+1)
			After(s.Next)
		}
	}
}
