package queue

import (
	"bytes"
	"fmt"
	"math"
	"math/rand"
	"slices"
	"testing"

	"waymark/api"
)

// most is how many texts there are at most.
const most = 32

// nowhere are places at which there is no text in a queue of n.
func nowhere(n int) []int {
	return []int{math.MinInt, math.MinInt + 1, -1 << 32, -1 << 31, -most - 1, -most, -2, -1, n, n + 1, n + 31, n + 32, n + 256,
		n + 1<<16, n + 1<<31, n + 1<<32, math.MaxInt - 1, math.MaxInt}
}

// text is the text that stands for a number: no two are alike, and they are not all of one length.
func text(n int) []byte { return append([]byte{byte(n), byte(n >> 8)}, make([]byte, n%3)...) }

// made is a queue of the texts of some numbers.
func made(t *testing.T, l ...int) *Queue {
	t.Helper()
	q := New()
	if q == nil {
		t.Fatal("New() = nil")
	}
	for _, n := range l {
		puts(t, q, text(n), api.OK)
	}
	return q
}

// upTo are the numbers from 0 on, n of them.
func upTo(n int) []int {
	var l []int
	for i := range n {
		l = append(l, i)
	}
	return l
}

// puts, takes, agains and drops fail if a call answers anything else.
func puts(t *testing.T, q *Queue, b []byte, want api.Errno) {
	t.Helper()
	if e := q.Put(b); e != want {
		t.Fatalf("Put(%d) = %d, want %d", b, e, want)
	}
}

func takes(t *testing.T, q *Queue, i int, want []byte, err api.Errno) {
	t.Helper()
	if b, e := q.Take(i); !bytes.Equal(b, want) || e != err {
		t.Fatalf("Take(%d) = %d, %d, want %d, %d", i, b, e, want, err)
	}
}

func agains(t *testing.T, q *Queue, i int, want api.Errno) {
	t.Helper()
	if e := q.Again(i); e != want {
		t.Fatalf("Again(%d) = %d, want %d", i, e, want)
	}
}

func drops(t *testing.T, q *Queue, i int, want api.Errno) {
	t.Helper()
	if e := q.Drop(i); e != want {
		t.Fatalf("Drop(%d) = %d, want %d", i, e, want)
	}
}

// holds fails if a queue has anything but these texts, in order.
func holds(t *testing.T, q *Queue, want ...[]byte) {
	t.Helper()
	if got := q.All(); !slices.EqualFunc(got, want, bytes.Equal) {
		t.Fatalf("All() = %d, want %d", got, want)
	}
}

// has fails if a queue has anything but the texts of these numbers, in order.
func has(t *testing.T, q *Queue, l ...int) {
	t.Helper()
	var want [][]byte
	for _, n := range l {
		want = append(want, text(n))
	}
	holds(t, q, want...)
}

// Qu1: a new queue has no texts, and there is none at any place.
func TestNew(t *testing.T) {
	q := made(t)
	has(t, q)
	for _, i := range nowhere(0) {
		takes(t, q, i, nil, api.ErrNone)
		agains(t, q, i, api.ErrNone)
		drops(t, q, i, api.ErrNone)
	}
	has(t, q)
}

// Qu1: two new queues are two.
func TestNewApart(t *testing.T) {
	one, other := made(t, 1, 2), made(t, 3)
	puts(t, one, text(4), api.OK)
	drops(t, other, 0, api.OK)
	has(t, one, 1, 2, 4)
	has(t, other)
	other.Clear()
	has(t, one, 1, 2, 4)
}

// Qu1: the chapter's example: Put, Again 0: two.
func TestExample(t *testing.T) {
	q := New()
	puts(t, q, []byte{7, 8}, api.OK)
	agains(t, q, 0, api.OK)
	holds(t, q, []byte{7, 8}, []byte{7, 8})
}

// Qu1: what is put is the last one.
func TestPut(t *testing.T) {
	q := made(t)
	for n := range most {
		puts(t, q, text(n), api.OK)
		has(t, q, upTo(n+1)...)
	}
}

// Qu1: 32 texts are in, and no more: what is refused turns nothing, and there is room again behind a take, a drop or a clear.
func TestFull(t *testing.T) {
	if api.MaxQueue != most {
		t.Fatalf("MaxQueue = %d", api.MaxQueue)
	}
	for _, c := range []struct {
		name string
		free func(*testing.T, *Queue)
		left []int
	}{
		{"take", func(t *testing.T, q *Queue) { takes(t, q, 0, text(0), api.OK) }, upTo(most)[1:]},
		{"drop", func(t *testing.T, q *Queue) { drops(t, q, most-1, api.OK) }, upTo(most - 1)},
		{"clear", func(t *testing.T, q *Queue) { q.Clear() }, nil},
	} {
		t.Run(c.name, func(t *testing.T) {
			q := made(t, upTo(most)...)
			for range 3 {
				puts(t, q, text(99), api.ErrFull)
				puts(t, q, nil, api.ErrFull)
				agains(t, q, 0, api.ErrFull)
				agains(t, q, most-1, api.ErrFull)
			}
			has(t, q, upTo(most)...)
			c.free(t, q)
			has(t, q, c.left...)
			puts(t, q, text(77), api.OK)
			has(t, q, append(slices.Clone(c.left), 77)...)
		})
	}
}

// Qu1: of a full queue, too, a place without a text is ErrNone: it is named ahead of ErrFull.
func TestNoneAheadOfFull(t *testing.T) {
	q := made(t, upTo(most)...)
	for _, i := range nowhere(most) {
		agains(t, q, i, api.ErrNone)
		takes(t, q, i, nil, api.ErrNone)
		drops(t, q, i, api.ErrNone)
	}
	has(t, q, upTo(most)...)
}

// Qu1: 31 texts and one of them again are 32.
func TestAgainTheLastRoom(t *testing.T) {
	q := made(t, upTo(most-1)...)
	agains(t, q, 5, api.OK)
	has(t, q, append(upTo(most-1), 5)...)
	agains(t, q, 5, api.ErrFull)
	has(t, q, append(upTo(most-1), 5)...)
}

// Qu1, Qu2: at each place of queues of each length: what is taken is what stood there, and is gone; the others keep their order.
func TestTake(t *testing.T) {
	for n := range most + 1 {
		for i := range n {
			q := made(t, upTo(n)...)
			takes(t, q, i, text(i), api.OK)
			has(t, q, slices.Delete(upTo(n), i, i+1)...)
		}
	}
}

// Qu1, Qu2: what is dropped is gone; the others keep their order.
func TestDrop(t *testing.T) {
	for n := range most + 1 {
		for i := range n {
			q := made(t, upTo(n)...)
			drops(t, q, i, api.OK)
			has(t, q, slices.Delete(upTo(n), i, i+1)...)
		}
	}
}

// Qu1, Qu2: what is there again is the last one, too; all others stay where they are.
func TestAgain(t *testing.T) {
	for n := range most {
		for i := range n {
			q := made(t, upTo(n)...)
			agains(t, q, i, api.OK)
			has(t, q, append(upTo(n), i)...)
		}
	}
}

// Qu1: at no place but 0 to one less than how many there are is a text.
func TestNone(t *testing.T) {
	for n := range most + 1 {
		q := made(t, upTo(n)...)
		for _, i := range nowhere(n) {
			takes(t, q, i, nil, api.ErrNone)
			agains(t, q, i, api.ErrNone)
			drops(t, q, i, api.ErrNone)
		}
		has(t, q, upTo(n)...)
	}
}

// Qu1: a text that is twice there is taken, or dropped, once: the other one stays.
func TestOnceOnly(t *testing.T) {
	q := made(t, 1, 2)
	agains(t, q, 0, api.OK)
	takes(t, q, 0, text(1), api.OK)
	has(t, q, 2, 1)
	puts(t, q, text(2), api.OK)
	drops(t, q, 0, api.OK)
	has(t, q, 1, 2)
}

// Qu1: behind a clear none is left, and the queue goes on as a new one.
func TestClear(t *testing.T) {
	for n := range most + 1 {
		q := made(t, upTo(n)...)
		q.Clear()
		has(t, q)
		takes(t, q, 0, nil, api.ErrNone)
		agains(t, q, 0, api.ErrNone)
		drops(t, q, 0, api.ErrNone)
		q.Clear()
		has(t, q)
		for i := range most {
			puts(t, q, text(i+40), api.OK)
		}
		puts(t, q, text(1), api.ErrFull)
		takes(t, q, 0, text(40), api.OK)
	}
}

// Qu1, R5: a text without bytes waits as others do; none and an empty one are alike.
func TestNoBytes(t *testing.T) {
	q := New()
	puts(t, q, nil, api.OK)
	puts(t, q, text(1), api.OK)
	puts(t, q, []byte{}, api.OK)
	holds(t, q, nil, text(1), nil)
	agains(t, q, 0, api.OK)
	takes(t, q, 0, nil, api.OK)
	holds(t, q, text(1), nil, nil)
	takes(t, q, 2, nil, api.OK)
	takes(t, q, 1, nil, api.OK)
	holds(t, q, text(1))
}

// Qu1: texts may be of any length and of any bytes: none is looked at.
func TestAnyText(t *testing.T) {
	every := make([]byte, 256)
	for i := range every {
		every[i] = byte(i)
	}
	l := [][]byte{every, {0}, {255}, {0xC3, 0x28}, {0, 0, 0}, bytes.Repeat([]byte{9}, 1<<16+1), make([]byte, 1<<20)}
	q := New()
	for _, b := range l {
		puts(t, q, b, api.OK)
	}
	holds(t, q, l...)
	for _, b := range l {
		agains(t, q, 0, api.OK)
		takes(t, q, 0, b, api.OK)
	}
	holds(t, q, l...)
}

// R1: of no queue, and of one that New did not give, all is ErrState, nothing, also where no text is at the place; nothing makes it one.
func TestNobodys(t *testing.T) {
	var zero Queue
	for _, q := range []*Queue{nil, {}, &zero, new(Queue)} {
		for range 2 {
			for _, b := range [][]byte{nil, {}, {1}} {
				puts(t, q, b, api.ErrState)
			}
			for _, i := range append(nowhere(0), 1, most) {
				b, e := q.Take(i)
				if b != nil || e != api.ErrState {
					t.Errorf("Take(%d) = %d, %d", i, b, e)
				}
				agains(t, q, i, api.ErrState)
				drops(t, q, i, api.ErrState)
			}
			if l := q.All(); len(l) != 0 {
				t.Errorf("All() = %d", l)
			}
			q.Clear()
		}
	}
}

// R2: beside an error there is no text.
func TestNothingBesideAnError(t *testing.T) {
	q := made(t, 1, 2)
	for _, i := range nowhere(2) {
		if b, e := q.Take(i); b != nil || e != api.ErrNone {
			t.Errorf("Take(%d) = %d, %d", i, b, e)
		}
	}
}

// R3: what is put is not written to, nor kept: turned behind the call, it turns nothing that waits.
func TestPutCopies(t *testing.T) {
	q := New()
	b := make([]byte, 3, 9)
	copy(b, []byte{1, 2, 3})
	puts(t, q, b, api.OK)
	if !bytes.Equal(b[:9], []byte{1, 2, 3, 0, 0, 0, 0, 0, 0}) {
		t.Errorf("Put wrote: %d", b[:9])
	}
	b[0] = 99
	puts(t, q, b, api.OK)
	b[1] = 98
	holds(t, q, []byte{1, 2, 3}, []byte{99, 2, 3})
	takes(t, q, 0, []byte{1, 2, 3}, api.OK)
}

// R3: what is taken is new memory: turned, and gone on behind its end, it turns neither the others nor the one that it was there again as.
func TestTakeIsNew(t *testing.T) {
	q := made(t, 1, 2, 3)
	agains(t, q, 1, api.OK)
	b, _ := q.Take(1)
	spoil(b)
	has(t, q, 1, 3, 2)
	b, _ = q.Take(2)
	spoil(b)
	agains(t, q, 0, api.OK)
	b, _ = q.Take(0)
	spoil(b)
	has(t, q, 3, 1)
}

// R3: all that All answers is new memory, each list of it by itself.
func TestAllIsNew(t *testing.T) {
	q := made(t, 1, 2, 3)
	agains(t, q, 0, api.OK)
	l, m := q.All(), q.All()
	for i := range l {
		spoil(l[i])
		for j := range l {
			if j > i && !bytes.Equal(l[j], m[j]) {
				t.Errorf("text %d turned with text %d: %d", j, i, l[j])
			}
		}
	}
	has(t, q, 1, 2, 3, 1)
	if !slices.EqualFunc(m, [][]byte{text(1), text(2), text(3), text(1)}, bytes.Equal) {
		t.Errorf("an answer turned with another one: %d", m)
	}
	clear(m[:cap(m)])
	_ = append(m[:1], nil, nil)
	has(t, q, 1, 2, 3, 1)
}

// R3: what All answered stays as it was, whatever is done to the queue then.
func TestAllStays(t *testing.T) {
	q := made(t, 1, 2, 3)
	l := q.All()
	takes(t, q, 0, text(1), api.OK)
	drops(t, q, 0, api.OK)
	puts(t, q, text(9), api.OK)
	q.Clear()
	puts(t, q, text(8), api.OK)
	if !slices.EqualFunc(l, [][]byte{text(1), text(2), text(3)}, bytes.Equal) {
		t.Errorf("All() turned to %d", l)
	}
}

// spoil turns all bytes of a text, and those that it could grow into.
func spoil(b []byte) {
	b = b[:cap(b)]
	for i := range b {
		b[i] ^= 0xFF
	}
}

// byWords is a queue as the chapter words it: its texts, each with the number of the put that it came by.
type byWords struct {
	texts []string
	puts  []int
	many  int
}

func (w *byWords) isAt(i int) bool { return i >= 0 && i < len(w.texts) }

func (w *byWords) last(b string, n int) api.Errno {
	if len(w.texts) == most {
		return api.ErrFull
	}
	w.texts, w.puts = append(w.texts, b), append(w.puts, n)
	return api.OK
}

func (w *byWords) put(b []byte) api.Errno {
	w.many++
	return w.last(string(b), w.many)
}

func (w *byWords) take(i int) (string, api.Errno) {
	if !w.isAt(i) {
		return "", api.ErrNone
	}
	b := w.texts[i]
	var texts []string
	var puts []int
	for j := range w.texts {
		if j != i {
			texts, puts = append(texts, w.texts[j]), append(puts, w.puts[j])
		}
	}
	w.texts, w.puts = texts, puts
	return b, api.OK
}

func (w *byWords) again(i int) api.Errno {
	if !w.isAt(i) {
		return api.ErrNone
	}
	return w.last(w.texts[i], w.puts[i])
}

// step does any call, mostly one that goes through, to a queue and to one by the chapter's words, and tells what it was, and both answers.
func step(r *rand.Rand, q *Queue, w *byWords, grows bool) (name, got, want string) {
	i := r.Intn(len(w.texts)+3) - 1
	kind := r.Intn(12)
	if grows && kind >= 6 && kind < 10 {
		kind = 0
	}
	switch {
	case kind < 4:
		b := make([]byte, r.Intn(5))
		r.Read(b)
		return fmt.Sprintf("Put(%d)", b), fmt.Sprint(q.Put(b)), fmt.Sprint(w.put(b))
	case kind < 6:
		return fmt.Sprintf("Again(%d)", i), fmt.Sprint(q.Again(i)), fmt.Sprint(w.again(i))
	case kind < 9:
		b, e := q.Take(i)
		c, f := w.take(i)
		return fmt.Sprintf("Take(%d)", i), fmt.Sprint(string(b), e), fmt.Sprint(c, f)
	case kind < 11 || r.Intn(8) > 0:
		e := q.Drop(i)
		_, f := w.take(i)
		return fmt.Sprintf("Drop(%d)", i), fmt.Sprint(e), fmt.Sprint(f)
	}
	q.Clear()
	w.texts, w.puts = nil, nil
	return "Clear()", "", ""
}

// Qu1, Qu2: any calls, one behind the other, answer as the chapter words it, and leave what it says.
func TestAnyCalls(t *testing.T) {
	r := rand.New(rand.NewSource(15))
	full := 0
	for run := range 400 {
		q, w := New(), &byWords{}
		for range 200 {
			name, got, want := step(r, q, w, run%2 == 0)
			if got != want {
				t.Fatalf("run %d: %s = %q, want %q", run, name, got, want)
			}
			all := q.All()
			if len(all) != len(w.texts) {
				t.Fatalf("run %d: behind %s %d texts, want %d", run, name, len(all), len(w.texts))
			}
			for i, b := range all {
				if string(b) != w.texts[i] {
					t.Fatalf("run %d: behind %s text %d = %q, want %q", run, name, i, b, w.texts[i])
				}
			}
			if len(all) == most {
				full++
			}
		}
	}
	if full < 1000 {
		t.Errorf("only %d times was a queue full", full)
	}
}

// Qu2: whatever is taken was put, and stays in the order of its coming: of texts that only are put, taken and dropped, the numbers rise.
func TestOrder(t *testing.T) {
	r := rand.New(rand.NewSource(16))
	q, put := New(), 0
	for range 20000 {
		n := len(q.All())
		switch {
		case n < most && (n == 0 || r.Intn(2) == 0):
			puts(t, q, text(put), api.OK)
			put++
		case r.Intn(3) == 0:
			drops(t, q, r.Intn(n), api.OK)
		default:
			i := r.Intn(n)
			takes(t, q, i, q.All()[i], api.OK)
		}
		last := -1
		for _, b := range q.All() {
			m := int(b[0]) | int(b[1])<<8
			if m <= last || m >= put {
				t.Fatalf("text %d behind text %d, of %d that were put", m, last, put)
			}
			last = m
		}
	}
}

// R4: the same calls answer the same.
func TestSameCalls(t *testing.T) {
	run := func() []string {
		r := rand.New(rand.NewSource(17))
		q, w := New(), &byWords{}
		var l []string
		for range 2000 {
			name, got, _ := step(r, q, w, true)
			l = append(l, name, got, fmt.Sprint(q.All()))
		}
		return l
	}
	if !slices.Equal(run(), run()) {
		t.Error("the same calls answered otherwise")
	}
}
