package record

import (
	"bytes"
	"fmt"
	"math"
	"math/rand"
	"slices"
	"testing"

	"waymark/api"
	"waymark/page"
)

// edges are numbers at the edges that pages have, and far off them.
var edges = []int{
	math.MinInt, -1 << 32, -1 << 31, -256, -16, -15, -2, -1, 0, 1, 2, 8, 9, 10, 11, 15, 16, 17, 255, 256, 257,
	1<<31 - 17, 1<<31 - 16, 1<<31 - 15, 1<<31 - 2, 1<<31 - 1, 1 << 31, 1<<31 + 1, 1<<32 - 1, 1 << 32, 1<<32 + 1,
	math.MaxInt - 15, math.MaxInt - 1, math.MaxInt,
}

// lengths are how many bytes records have, at the edges of their pages.
var lengths = []int{0, 1, 2, 100, 487, 488, 489, 490, 975, 976, 977, 3903, 3904, 3905, 7319, 7320, 7321, 7807, 7808}

// may tells, as the document words it, whether a page may be.
func may(p api.Page) bool {
	if p.Kind < 1 || p.Kind > 9 || p.Parts < 1 || p.Parts > 16 || p.Part < 0 || p.Part > p.Parts-1 {
		return false
	}
	for _, n := range []int{p.Gen, p.Mark, p.Index} {
		if n < 0 || n > 2147483648 {
			return false
		}
	}
	return len(p.B) <= 488
}

// needs is how many pages n bytes need, told by taking a page's room from them as long as there are more.
func needs(n int) int {
	pages := 1
	for n > 488 {
		n -= 488
		pages++
	}
	return pages
}

// whole tells, as the document words it, whether these pages are those of one record, all of them.
func whole(l []api.Page) bool {
	bytes := 0
	for i, p := range l {
		if !may(p) || p.Kind != l[0].Kind || p.Gen != l[0].Gen || p.Mark != l[0].Mark {
			return false
		}
		if p.Index != l[0].Index+i || p.Part != i || p.Parts != len(l) || i < len(l)-1 && len(p.B) != 488 {
			return false
		}
		bytes += len(p.B)
	}
	return len(l) > 0 && bytes <= 7808 && needs(bytes) == len(l)
}

// begun is what pages begin with, as the document words it: some of them, from the first one on, are a record's.
func begun(l []api.Page) ([]byte, int, bool) {
	for n := 1; n <= len(l); n++ {
		if whole(l[:n]) {
			return together(l[:n]), n, true
		}
	}
	return nil, 0, false
}

// together are all bytes of pages.
func together(l []api.Page) []byte {
	var b []byte
	for _, p := range l {
		b = append(b, p.B...)
	}
	return b
}

// noise is as many bytes, the same in every run, but unlike at unlike lengths.
func noise(n int) []byte {
	b := make([]byte, n)
	for i := range b {
		b[i] = byte((i*n + i + 1) * 2654435761 >> 16)
	}
	return b
}

// split is a record's pages, which must not be refused.
func split(t *testing.T, p api.Page, b []byte) []api.Page {
	t.Helper()
	l, e := Split(p, b)
	if e != api.OK {
		t.Fatalf("Split(%v, %d bytes) = %d", p, len(b), e)
	}
	return l
}

// isBegun fails if Join does not tell the record of these pages as the document's words do.
func isBegun(t *testing.T, l []api.Page, what string) bool {
	t.Helper()
	wantB, wantN, want := begun(l)
	b, n, ok := Join(l)
	if ok != want || n != wantN || !bytes.Equal(b, wantB) || !ok && b != nil {
		t.Fatalf("%s: Join = %d bytes, %d, %v, want %d bytes, %d, %v", what, len(b), n, ok, len(wantB), wantN, want)
	}
	return ok
}

// isNone fails if pages begin with some record, or if something is answered beside that there is none.
func isNone(t *testing.T, l []api.Page, what string) {
	t.Helper()
	if b, n, ok := Join(l); ok || n != 0 || b != nil {
		t.Fatalf("%s: Join = %d bytes, %d, %v", what, len(b), n, ok)
	}
}

// Rc1: Parts, at numbers that are known.
func TestPartsKnown(t *testing.T) {
	for n, want := range map[int]int{
		math.MinInt: 0, -7808: 0, -489: 0, -488: 0, -1: 0, 0: 1, 1: 1, 487: 1, 488: 1, 489: 2, 976: 2, 977: 3,
		7319: 15, 7320: 15, 7321: 16, 7808: 16, 7809: 0, 8296: 0, 1 << 31: 0, 1 << 32: 0, math.MaxInt - 486: 0, math.MaxInt: 0,
	} {
		if got := Parts(n); got != want {
			t.Errorf("Parts(%d) = %d, want %d", n, got, want)
		}
	}
}

// Rc1: Parts, of all lengths, against the document's words.
func TestPartsWords(t *testing.T) {
	for n := -1000; n <= 10000; n++ {
		want := 0
		if n >= 0 && n <= 7808 {
			want = needs(n)
		}
		if got := Parts(n); got != want {
			t.Errorf("Parts(%d) = %d, want %d", n, got, want)
		}
	}
}

// Rc1: Split, at pages that are known, and the chapter's example.
func TestSplitKnown(t *testing.T) {
	b := noise(489)
	l := split(t, api.Page{Kind: 2, Gen: 5, Mark: 6, Index: 3}, b)
	want := []api.Page{
		{Kind: 2, Gen: 5, Mark: 6, Index: 3, Part: 0, Parts: 2, B: b[:488]},
		{Kind: 2, Gen: 5, Mark: 6, Index: 4, Part: 1, Parts: 2, B: b[488:]},
	}
	if !slices.EqualFunc(l, want, page.Same) {
		t.Errorf("Split = %v", l)
	}
}

// Rc1: a record without bytes has a page without bytes, whether there is a list or none (R5).
func TestSplitEmpty(t *testing.T) {
	for _, b := range [][]byte{nil, {}} {
		l := split(t, api.Page{Kind: 9, Index: 7}, b)
		if len(l) != 1 || !page.Same(l[0], api.Page{Kind: 9, Index: 7, Parts: 1}) {
			t.Errorf("Split = %v", l)
		}
		if got, n, ok := Join(l); len(got) != 0 || n != 1 || !ok {
			t.Errorf("Join = %v, %d, %v", got, n, ok)
		}
	}
}

// Rc1: Split, against the document's words, with all other parts of the page that it is given not looked at.
func TestSplitWords(t *testing.T) {
	for _, n := range lengths {
		b := noise(n)
		for _, p := range []api.Page{
			{Kind: 1},
			{Kind: 9, Gen: 1 << 31, Mark: 1 << 31, Index: 1<<31 - 15},
			{Kind: 2, Gen: 3, Mark: 4, Index: 5, Part: 6, Parts: 7, B: []byte{8}},
			{Kind: 2, Gen: 3, Mark: 4, Index: 5, Part: -1, Parts: -1, B: make([]byte, 489)},
			{Kind: 2, Gen: 3, Mark: 4, Index: 5, Part: math.MaxInt, Parts: math.MinInt, B: make([]byte, 8000)},
		} {
			l := split(t, p, b)
			if !whole(l) || !bytes.Equal(together(l), b) {
				t.Errorf("Split(%v, %d bytes) = %v", p, n, l)
			}
			if l[0].Kind != p.Kind || l[0].Gen != p.Gen || l[0].Mark != p.Mark || l[0].Index != p.Index {
				t.Errorf("Split(%v, %d bytes) begins with %v", p, n, l[0])
			}
		}
	}
}

// Rc1: ErrBig of bytes that are no record, also where the page may not be.
func TestSplitBig(t *testing.T) {
	for _, n := range []int{7809, 7810, 8296, 65536, 1 << 20} {
		for _, p := range []api.Page{{Kind: 1}, {}, {Kind: 10}, {Kind: 1, Gen: -1}, {Kind: 1, Index: 1 << 31}, {Kind: 1, Index: 1<<31 + 1}} {
			if l, e := Split(p, make([]byte, n)); e != api.ErrBig || l != nil {
				t.Errorf("Split(%v, %d bytes) = %v, %d", p, n, l, e)
			}
		}
	}
}

// Rc1: ErrArg, and nothing, of pages that may not be: each number at all its edges, with each of some lengths.
func TestSplitMay(t *testing.T) {
	for _, n := range edges {
		for _, set := range []func(p *api.Page){
			func(p *api.Page) { p.Kind = n },
			func(p *api.Page) { p.Gen = n },
			func(p *api.Page) { p.Mark = n },
			func(p *api.Page) { p.Index = n },
		} {
			for _, size := range []int{0, 1, 488, 489, 977, 7320, 7808} {
				p := api.Page{Kind: 1, Gen: 1, Mark: 1, Index: 1}
				set(&p)
				first, last := p, p
				first.Part, first.Parts = 0, needs(size)
				last.Part, last.Parts = needs(size)-1, needs(size)
				last.Index += last.Part
				want := api.ErrArg
				if may(first) && may(last) {
					want = api.OK
				}
				l, e := Split(p, make([]byte, size))
				if e != want || e == api.OK && !whole(l) || e != api.OK && l != nil {
					t.Errorf("Split(%v, %d bytes) = %v, %d, want %d", p, size, l, e, want)
				}
			}
		}
	}
}

// Rc1: ErrArg if some page's Index may not be, though the first one's may.
func TestSplitLastIndex(t *testing.T) {
	for _, n := range lengths {
		far := 1<<31 - needs(n) + 1
		l := split(t, api.Page{Kind: 1, Index: far}, make([]byte, n))
		if l[len(l)-1].Index != 1<<31 {
			t.Errorf("%d bytes from %d on: the last one is %v", n, far, l[len(l)-1])
		}
		if l, e := Split(api.Page{Kind: 1, Index: far + 1}, make([]byte, n)); e != api.ErrArg || l != nil {
			t.Errorf("%d bytes from %d on: %v, %d", n, far+1, l, e)
		}
	}
}

// Rc2: what is split is joined, of all lengths, whatever stands behind.
func TestSplitJoin(t *testing.T) {
	for n := 0; n <= 7808; n++ {
		if n > 1000 && n%61 > 1 && n%488 > 1 {
			continue
		}
		b := noise(n)
		p := api.Page{Kind: 1 + n%9, Gen: n, Mark: 1<<31 - n, Index: n}
		l := split(t, p, b)
		for _, behind := range [][]api.Page{nil, {{}}, l, {{Kind: -1, Parts: math.MaxInt, B: make([]byte, 600)}}} {
			got, parts, ok := Join(slices.Concat(l, behind))
			if !ok || parts != len(l) || !bytes.Equal(got, b) {
				t.Fatalf("%d bytes, split: Join = %d bytes, %d, %v", n, len(got), parts, ok)
			}
		}
	}
}

// Rc1: Join tells of the first record alone, and records that stand one behind the other are joined one by one.
func TestJoinMany(t *testing.T) {
	var l []api.Page
	for _, n := range lengths {
		l = append(l, split(t, api.Page{Kind: 2, Gen: 1, Mark: 2, Index: len(l)}, noise(n))...)
	}
	for _, want := range lengths {
		b, n, ok := Join(l)
		if !ok || n != needs(want) || !bytes.Equal(b, noise(want)) {
			t.Fatalf("Join = %d bytes, %d, %v, want %d bytes", len(b), n, ok, want)
		}
		l = l[n:]
	}
	isNone(t, l, "behind all")
}

// Rc1: nothing of no pages, of a list without any (R5), and of pages that are none.
func TestJoinNothing(t *testing.T) {
	isNone(t, nil, "no list")
	isNone(t, []api.Page{}, "an empty list")
	isNone(t, []api.Page{{}}, "a zero page")
	isNone(t, make([]api.Page, 16), "zero pages")
	isNone(t, make([]api.Page, 1000), "many zero pages")
	for _, n := range edges {
		l := make([]api.Page, 20)
		for i := range l {
			l[i] = api.Page{Kind: 1, Index: i, Part: i, Parts: n, B: make([]byte, 488)}
		}
		if n < 1 || n > 16 {
			isNone(t, l, fmt.Sprint(n, " parts"))
		}
		isBegun(t, l, fmt.Sprint(n, " parts"))
		isBegun(t, l[:1], fmt.Sprint("one of ", n, " parts"))
	}
}

// Rc1: nothing, if not all of a record's pages are there.
func TestJoinShort(t *testing.T) {
	for _, n := range lengths {
		l := split(t, api.Page{Kind: 1, Gen: 2, Mark: 3, Index: 4}, noise(n))
		for i := range l {
			isNone(t, l[:i], fmt.Sprint("the first ", i, " of ", len(l)))
			if i > 0 {
				isNone(t, l[i:], fmt.Sprint("those from ", i, " on of ", len(l)))
			}
			if len(l) > 1 {
				isNone(t, slices.Delete(slices.Clone(l), i, i+1), fmt.Sprint(i, " is not there of ", len(l)))
			}
			// The last one that is there twice stands behind the record.
			if i < len(l)-1 {
				isNone(t, slices.Insert(slices.Clone(l), i+1, l[i]), fmt.Sprint(i, " is there twice of ", len(l)))
			}
		}
	}
}

// Rc1: nothing, if pages stand in another order.
func TestJoinOrder(t *testing.T) {
	l := split(t, api.Page{Kind: 1, Gen: 2, Mark: 3, Index: 4}, noise(2000))
	for i := range l {
		for k := range i {
			turned := slices.Clone(l)
			turned[i], turned[k] = turned[k], turned[i]
			isNone(t, turned, fmt.Sprint(i, " and ", k, " turned"))
			// Nor if they are numbered as they stand, but are the parts that they were.
			turned[i].Index, turned[k].Index = turned[k].Index, turned[i].Index
			isNone(t, turned, fmt.Sprint(i, " and ", k, " turned, and numbered"))
		}
	}
}

// Rc1: nothing, if one page of a record has some other number; each number, each page, at all edges.
func TestJoinNumbers(t *testing.T) {
	for _, size := range []int{0, 488, 489, 977, 1900, 7808} {
		whole := split(t, api.Page{Kind: 1, Gen: 2, Mark: 3, Index: 4}, noise(size))
		for i := range whole {
			for _, n := range edges {
				for k, set := range []func(p *api.Page){
					func(p *api.Page) { p.Kind = n },
					func(p *api.Page) { p.Gen = n },
					func(p *api.Page) { p.Mark = n },
					func(p *api.Page) { p.Index = n },
					func(p *api.Page) { p.Part = n },
					func(p *api.Page) { p.Parts = n },
				} {
					l := slices.Clone(whole)
					set(&l[i])
					isBegun(t, l, fmt.Sprint(size, " bytes, page ", i, ", number ", k, " is ", n))
				}
			}
		}
	}
}

// Rc1: nothing, if all pages of a record have a number that may not be.
func TestJoinMayNotBe(t *testing.T) {
	for _, size := range []int{0, 488, 489, 1900} {
		for _, n := range edges {
			for k, set := range []func(p *api.Page, i int){
				func(p *api.Page, _ int) { p.Kind = n },
				func(p *api.Page, _ int) { p.Gen = n },
				func(p *api.Page, _ int) { p.Mark = n },
				func(p *api.Page, i int) { p.Index = n + i },
				func(p *api.Page, _ int) { p.Part = n },
				func(p *api.Page, _ int) { p.Parts = n },
				func(p *api.Page, i int) { p.Part = n + i },
			} {
				l := split(t, api.Page{Kind: 1, Gen: 2, Mark: 3, Index: 4}, noise(size))
				for i := range l {
					set(&l[i], i)
				}
				isBegun(t, l, fmt.Sprint(size, " bytes, number ", k, " is ", n))
			}
		}
	}
}

// Rc1: nothing, if a page has more or fewer bytes than a record's page at its place has.
func TestJoinBytes(t *testing.T) {
	for _, size := range []int{0, 1, 488, 489, 976, 977, 1900, 7808} {
		whole := split(t, api.Page{Kind: 1, Gen: 2, Mark: 3, Index: 4}, noise(size))
		for i := range whole {
			for _, n := range []int{0, 1, 2, 487, 488, 489, 490, 976, 7808, 7809} {
				l := slices.Clone(whole)
				l[i].B = noise(n)
				ok := isBegun(t, l, fmt.Sprint(size, " bytes, page ", i, " has ", n))
				last := i == len(l)-1
				if want := n <= 488 && (last && (n > 0 || i == 0) || n == 488); ok != want {
					t.Fatalf("%d bytes, page %d has %d: %v, want %v", size, i, n, ok, want)
				}
			}
		}
	}
	// As many bytes as there are, but not each page but the last one with as many as there is room for.
	isNone(t, []api.Page{
		{Kind: 1, Parts: 2, B: noise(400)},
		{Kind: 1, Index: 1, Part: 1, Parts: 2, B: noise(400)},
	}, "800 bytes in halves")
	isNone(t, []api.Page{
		{Kind: 1, Parts: 2, B: noise(489)},
		{Kind: 1, Index: 1, Part: 1, Parts: 2, B: noise(1)},
	}, "a page with a byte too much")
}

// Rc1: nothing, if the last page of several has no bytes: a record has as many pages as it needs.
func TestJoinLastEmpty(t *testing.T) {
	for parts := 2; parts <= 16; parts++ {
		l := make([]api.Page, parts)
		for i := range l {
			l[i] = api.Page{Kind: 1, Index: i, Part: i, Parts: parts, B: noise(488)}
		}
		if b, n, ok := Join(l); !ok || n != parts || len(b) != 488*parts {
			t.Errorf("%d full pages: %d bytes, %d, %v", parts, len(b), n, ok)
		}
		for _, b := range [][]byte{nil, {}} {
			l[parts-1].B = b
			isNone(t, l, fmt.Sprint("no bytes in the last of ", parts))
		}
	}
}

// Rc1: nothing of more pages than a record has, though they are numbered as one's.
func TestJoinTooMany(t *testing.T) {
	for _, parts := range []int{17, 18, 32, 255, 256, 272} {
		for _, n := range []int{0, 1, 28, 488} {
			l := make([]api.Page, parts)
			for i := range l {
				l[i] = api.Page{Kind: 1, Index: i, Part: i, Parts: parts, B: noise(n)}
			}
			isNone(t, l, fmt.Sprint(parts, " pages of ", n, " bytes"))
		}
	}
}

// Rc1: what stands behind a record is not looked at.
func TestJoinBehind(t *testing.T) {
	l := split(t, api.Page{Kind: 1, Gen: 2, Mark: 3, Index: 4}, noise(500))
	for _, p := range []api.Page{
		{}, {Kind: 10}, {Kind: 1, Gen: 2, Mark: 3, Index: 4, Parts: 2}, {Kind: 1, Gen: 2, Mark: 3, Index: 6, Part: 2, Parts: 3, B: noise(5)},
		{Kind: 1, Gen: 2, Mark: 3, Index: 5, Part: 1, Parts: 2, B: noise(12)}, {Kind: 1, Gen: -1, Parts: -1, B: make([]byte, 9000)},
	} {
		b, n, ok := Join(append(slices.Clone(l), p))
		if !ok || n != 2 || !bytes.Equal(b, noise(500)) {
			t.Errorf("with %v behind: %d bytes, %d, %v", p, len(b), n, ok)
		}
	}
}

// Rc2: pages of two records with unlike Gens, Marks, or Indexes never make one.
func TestTwoRecords(t *testing.T) {
	var others []api.Page
	for _, d := range []int{-3, -2, -1, 1, 2, 3} {
		others = append(others,
			api.Page{Kind: 2, Gen: 5 + d, Mark: 6, Index: 7},
			api.Page{Kind: 2, Gen: 5, Mark: 6 + d, Index: 7},
			api.Page{Kind: 2, Gen: 5, Mark: 6, Index: 7 + d},
			api.Page{Kind: 2, Gen: 5 + d, Mark: 6 - d, Index: 7 + d},
		)
	}
	for _, n := range []int{489, 976, 977, 1464} {
		a := split(t, api.Page{Kind: 2, Gen: 5, Mark: 6, Index: 7}, noise(n))
		for _, q := range others {
			for _, m := range []int{489, 976, 977, 1464} {
				apart(t, a, split(t, q, noise(m)))
			}
		}
	}
}

// apart fails if pages of both records make one, in any choice of at most three of them, in any order.
func apart(t *testing.T, a, b []api.Page) {
	t.Helper()
	all := slices.Concat(a, b)
	var try func(l []api.Page, fromA, fromB bool)
	try = func(l []api.Page, fromA, fromB bool) {
		if _, n, ok := Join(l); ok && n == len(l) && fromA && fromB {
			t.Fatalf("pages of two records make one: %v", l)
		}
		if len(l) == 3 {
			return
		}
		for i, p := range all {
			try(append(slices.Clone(l), p), fromA || i < len(a), fromB || i >= len(a))
		}
	}
	try(nil, false, false)
}

// Rc2: of two long records, neither one page of the other in its place, nor all from some place on, make one.
func TestTwoLongRecords(t *testing.T) {
	a := split(t, api.Page{Kind: 2, Gen: 5, Mark: 6, Index: 7}, noise(7808))
	for _, q := range []api.Page{
		{Kind: 2, Gen: 4, Mark: 6, Index: 7},
		{Kind: 2, Gen: 5, Mark: 7, Index: 7},
		{Kind: 2, Gen: 5, Mark: 6, Index: 8},
		{Kind: 2, Gen: 5, Mark: 6, Index: 6},
	} {
		b := split(t, q, noise(7808))
		for i := range a {
			isNone(t, slices.Concat(a[:i], b[i:i+1], a[i+1:]), fmt.Sprint("page ", i, " of ", q))
			if i > 0 {
				isNone(t, slices.Concat(a[:i], b[i:]), fmt.Sprint("pages from ", i, " on of ", q))
			}
		}
	}
}

// Rc1: Join tells what any pages begin with as the document's words tell it.
func TestJoinAny(t *testing.T) {
	r := rand.New(rand.NewSource(5))
	pick := func(l ...int) int { return l[r.Intn(len(l))] }
	found := make(map[int]int)
	for try := range 20000 {
		first := api.Page{Kind: pick(1, 9, 9, 10), Gen: pick(0, 1<<31), Mark: pick(0, 1<<31), Index: pick(0, 3, 1<<31-2, 1<<31-1, 1<<31)}
		parts := pick(1, 1, 2, 2, 3)
		l := make([]api.Page, pick(0, 1, 2, 2, 3, 3, 4))
		for i := range l {
			p := first
			p.Index, p.Part, p.Parts = p.Index+i, i, parts
			p.B = noise(488)
			if i == parts-1 {
				p.B = noise(pick(0, 1, 487, 488))
			}
			l[i] = p
		}
		if len(l) > 0 && r.Intn(2) == 0 {
			p := &l[r.Intn(len(l))]
			n := pick(-1, 0, 0, 1, 2)
			switch r.Intn(7) {
			case 0:
				p.Kind += n
			case 1:
				p.Gen += n
			case 2:
				p.Mark += n
			case 3:
				p.Index += n
			case 4:
				p.Part += n
			case 5:
				p.Parts += n
			default:
				p.B = noise(max(0, len(p.B)+n))
			}
		}
		if isBegun(t, l, fmt.Sprint("try ", try)) {
			found[parts]++
		}
	}
	if found[1] < 500 || found[2] < 500 || found[3] < 100 {
		t.Errorf("records alone: %v", found)
	}
}

// R3: what is handed in is not written to, and what is answered is new memory.
func TestNewMemory(t *testing.T) {
	for _, n := range []int{1, 488, 489, 1000} {
		b := noise(n)
		p := api.Page{Kind: 1, B: []byte{9}}
		l := split(t, p, b)
		for i := range l {
			was := bytes.Clone(l[i].B)
			clear(b)
			if !bytes.Equal(l[i].B, was) {
				t.Errorf("page %d of %d bytes is the argument's memory", i, n)
			}
			copy(b, noise(n))
		}
		if !bytes.Equal(b, noise(n)) || !bytes.Equal(p.B, []byte{9}) {
			t.Errorf("Split of %d bytes wrote to its arguments", n)
		}
		for i := range l {
			// What grows, or is written to, is that page alone.
			_ = append(l[i].B, 1, 2, 3)
			clear(l[i].B)
			for k := i + 1; k < len(l); k++ {
				if from := 488 * k; !bytes.Equal(l[k].B, noise(n)[from:min(from+488, n)]) {
					t.Errorf("pages %d and %d of %d bytes share memory", i, k, n)
				}
			}
		}
		if !bytes.Equal(b, noise(n)) {
			t.Errorf("pages of %d bytes are the argument's memory", n)
		}

		l = split(t, p, b)
		was := fmt.Sprint(l)
		got, _, _ := Join(l)
		if fmt.Sprint(l) != was {
			t.Errorf("Join of %d bytes wrote to its argument", n)
		}
		clear(got)
		_ = append(got, 1)
		if fmt.Sprint(l) != was {
			t.Errorf("what Join of %d bytes answers is its argument's memory", n)
		}
	}
}

// R4: what is answered hangs on the arguments alone.
func TestAgain(t *testing.T) {
	for _, n := range lengths {
		p := api.Page{Kind: 3, Gen: 4, Mark: 5, Index: 6}
		a, b := split(t, p, noise(n)), split(t, p, noise(n))
		if !slices.EqualFunc(a, b, page.Same) || Parts(n) != len(a) {
			t.Errorf("%d bytes, split twice: %v and %v", n, a, b)
		}
	}
}
