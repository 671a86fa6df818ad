package octet

import (
	"bytes"
	"math"
	"math/rand"
	"testing"
)

// wrongWidths are widths that numbers do not have.
var wrongWidths = []int{0, -1, 9, 10, 16, 64, -8, 1 << 31, math.MaxInt, math.MinInt}

// numbers are numbers at the edges of each width, and some between.
func numbers() []uint64 {
	l := []uint64{0, 1, 7, 255, 256, 258, 0x0102030405060708, math.MaxUint64}
	for i := range 64 {
		l = append(l, 1<<i, 1<<i-1, 1<<i+1)
	}
	r := rand.New(rand.NewSource(1))
	for range 50 {
		l = append(l, r.Uint64())
	}
	return l
}

// rest is n's rest by 256 to that power.
func rest(n uint64, width int) uint64 {
	if width == 8 {
		return n
	}
	return n % (1 << (8 * width))
}

// isSpoilt tells whether a reader is wrong, and gives nothing any more, with so many bytes left.
func isSpoilt(r *Reader, left int) bool {
	for range 2 {
		if !r.Wrong() || r.Done() || r.Left() != left || r.Num(1) != 0 || len(r.Text()) != 0 || r.Num(0) != 0 {
			return false
		}
	}
	return true
}

// Oc1: Num, at bytes that are known.
func TestNumKnown(t *testing.T) {
	for _, c := range []struct {
		b     []byte
		width int
		n     uint64
		want  []byte
	}{
		{nil, 2, 258, []byte{1, 2}},
		{[]byte{}, 1, 0, []byte{0}},
		{[]byte{9}, 1, 255, []byte{9, 255}},
		{nil, 1, 256, []byte{0}},
		{nil, 1, 258, []byte{2}},
		{nil, 2, 65536, []byte{0, 0}},
		{nil, 2, 65535, []byte{255, 255}},
		{nil, 3, 0x01020304, []byte{2, 3, 4}},
		{[]byte{7, 8}, 4, 1, []byte{7, 8, 0, 0, 0, 1}},
		{nil, 7, math.MaxUint64, []byte{255, 255, 255, 255, 255, 255, 255}},
		{nil, 8, math.MaxUint64, []byte{255, 255, 255, 255, 255, 255, 255, 255}},
		{nil, 8, 1 << 63, []byte{128, 0, 0, 0, 0, 0, 0, 0}},
		{[]byte{0}, 8, 0x0102030405060708, []byte{0, 1, 2, 3, 4, 5, 6, 7, 8}},
	} {
		if got := Num(c.b, c.width, c.n); !bytes.Equal(got, c.want) {
			t.Errorf("Num(%v, %d, %d) = %v, want %v", c.b, c.width, c.n, got, c.want)
		}
	}
}

// Oc1: Num, against the document's words: the rest by 256 to the width's power, the highest byte first.
func TestNumWords(t *testing.T) {
	for width := 1; width <= 8; width++ {
		for _, n := range numbers() {
			want := make([]byte, width)
			for i, left := width-1, n; i >= 0; i, left = i-1, left/256 {
				want[i] = byte(left % 256)
			}
			if got := Num([]byte("ab"), width, n); !bytes.Equal(got, append([]byte("ab"), want...)) {
				t.Fatalf("Num(ab, %d, %d) = %v", width, n, got)
			}
		}
	}
}

// Oc1: b alone, if the width is not 1 to 8.
func TestNumWrongWidth(t *testing.T) {
	for _, width := range wrongWidths {
		for _, b := range [][]byte{nil, {}, {1}, []byte("abc")} {
			if got := Num(b, width, 258); !bytes.Equal(got, b) {
				t.Errorf("Num(%v, %d, 258) = %v", b, width, got)
			}
		}
	}
}

// Oc1: Text, at bytes that are known.
func TestTextKnown(t *testing.T) {
	for _, c := range []struct{ b, t, want []byte }{
		{nil, nil, []byte{0, 0}},
		{[]byte{}, []byte{}, []byte{0, 0}},
		{[]byte{5}, nil, []byte{5, 0, 0}},
		{[]byte{1, 2}, []byte{7}, []byte{1, 2, 0, 1, 7}},
		{nil, []byte("abc"), []byte("\x00\x03abc")},
	} {
		if got, ok := Text(c.b, c.t); !ok || !bytes.Equal(got, c.want) {
			t.Errorf("Text(%v, %v) = %v, %v, want %v", c.b, c.t, got, ok, c.want)
		}
	}
}

// Oc1: a text has 65535 bytes at most; if it has more, the answer is b alone, false.
func TestTextEdge(t *testing.T) {
	for _, n := range []int{255, 256, 257, 65534, 65535} {
		text := bytes.Repeat([]byte{3}, n)
		got, ok := Text([]byte{9}, text)
		if !ok || len(got) != n+3 || !bytes.Equal(got[:3], []byte{9, byte(n >> 8), byte(n)}) || !bytes.Equal(got[3:], text) {
			t.Errorf("a text of %d bytes", n)
		}
	}
	for _, n := range []int{65536, 65537, 1 << 17, 1<<17 + 1} {
		for _, b := range [][]byte{nil, {}, {9}, []byte("abc")} {
			if got, ok := Text(b, make([]byte, n)); ok || !bytes.Equal(got, b) {
				t.Errorf("a text of %d bytes behind %v: %d bytes, %v", n, b, len(got), ok)
			}
		}
	}
}

// Oc1: a reader of b is at place 0, and nothing was wrong.
func TestRead(t *testing.T) {
	for _, b := range [][]byte{nil, {}, {1}, make([]byte, 3000)} {
		r := Read(b)
		if r == nil || r.Left() != len(b) || r.Wrong() || r.Done() != (len(b) == 0) {
			t.Errorf("a reader of %d bytes", len(b))
		}
	}
}

// Oc2: numbers and texts are read one behind the other.
func TestReadOn(t *testing.T) {
	r := Read([]byte{1, 2, 0, 1, 7, 255, 0, 0, 0, 2, 'a', 'b', 0, 0})
	if got := r.Num(2); got != 258 || r.Left() != 12 || r.Done() {
		t.Fatalf("Num(2) = %d, %d left", got, r.Left())
	}
	if got := r.Text(); !bytes.Equal(got, []byte{7}) || r.Left() != 9 {
		t.Fatalf("Text = %v, %d left", got, r.Left())
	}
	if got := r.Num(1); got != 255 || r.Left() != 8 || r.Done() {
		t.Fatalf("Num(1) = %d, %d left", got, r.Left())
	}
	if got := r.Text(); len(got) != 0 || r.Left() != 6 || r.Wrong() {
		t.Fatalf("Text = %v, %d left", got, r.Left())
	}
	if got := r.Text(); string(got) != "ab" || r.Left() != 2 || r.Done() {
		t.Fatalf("Text = %v, %d left", got, r.Left())
	}
	if got := r.Text(); len(got) != 0 || r.Left() != 0 || r.Wrong() || !r.Done() {
		t.Fatalf("Text = %v, %d left", got, r.Left())
	}
	if r.Num(1) != 0 || !isSpoilt(r, 0) {
		t.Error("a number behind the end")
	}
}

// Oc2: a number of each width, with just enough left, and with one byte too few.
func TestNumLeft(t *testing.T) {
	b := []byte{1, 2, 3, 4, 5, 6, 7, 8}
	for width := 1; width <= 8; width++ {
		r := Read(b[:width])
		if got := r.Num(width); got != 0x0102030405060708>>(64-8*width) || !r.Done() {
			t.Errorf("Num(%d) = %X", width, got)
		}
		for n := range width {
			r := Read(b[:n])
			if r.Num(width) != 0 || !isSpoilt(r, n) {
				t.Errorf("Num(%d) of %d bytes", width, n)
			}
		}
	}
}

// Oc2: a width that is not 1 to 8 may not be, also where nothing is left.
func TestReadWrongWidth(t *testing.T) {
	for _, width := range wrongWidths {
		for n := range 12 {
			r := Read(bytes.Repeat([]byte{1}, n))
			if r.Num(width) != 0 || !isSpoilt(r, n) {
				t.Errorf("Num(%d) of %d bytes", width, n)
			}
		}
	}
}

// Oc2: where there is too little left for a text, the place stays ahead of the whole of it.
func TestTextLeft(t *testing.T) {
	for _, b := range [][]byte{
		{}, {0}, {1}, {0, 1}, {1, 0}, {0, 2, 7}, {255, 255, 1}, {0, 4, 1, 2, 3},
		append([]byte{255, 255}, make([]byte, 65534)...),
		append([]byte{1, 0}, make([]byte, 255)...),
	} {
		r := Read(b)
		if got := r.Text(); len(got) != 0 || !isSpoilt(r, len(b)) {
			t.Errorf("Text of %d bytes: %d, %d left", len(b), len(got), r.Left())
		}
		r = Read(append([]byte{8}, b...))
		if r.Num(1) != 8 || len(r.Text()) != 0 || !isSpoilt(r, len(b)) {
			t.Errorf("Text of %d bytes behind one: %d left", len(b), r.Left())
		}
	}
}

// Oc2: what was wrong stays so, though there would be enough for what is asked for next.
func TestWrongStays(t *testing.T) {
	for i, spoil := range []func(r *Reader){
		func(r *Reader) { r.Num(8) }, func(r *Reader) { r.Num(0) }, func(r *Reader) { r.Num(-3) },
		func(r *Reader) { r.Num(9) }, func(r *Reader) { r.Text() },
	} {
		r := Read([]byte{0, 6, 1, 2, 3, 4, 5})
		spoil(r)
		if !isSpoilt(r, 7) {
			t.Errorf("way %d: %d left", i, r.Left())
		}
	}
}

// Oc2: of no reader: 0, nothing; it is wrong.
func TestNoReader(t *testing.T) {
	for _, r := range []*Reader{nil, {}, new(Reader)} {
		for range 2 {
			if r.Num(1) != 0 || r.Num(8) != 0 || r.Num(0) != 0 || r.Num(-1) != 0 || len(r.Text()) != 0 {
				t.Error("something was read")
			}
			if r.Left() != 0 || !r.Wrong() || r.Done() {
				t.Error("it is not wrong")
			}
		}
	}
}

// Oc3: numbers that are put are read, of each width.
func TestNumPutRead(t *testing.T) {
	for width := 1; width <= 8; width++ {
		var b []byte
		for _, n := range numbers() {
			b = Num(b, width, n)
		}
		r := Read(b)
		for _, n := range numbers() {
			if got := r.Num(width); got != rest(n, width) {
				t.Fatalf("of width %d: %d, want %d", width, got, rest(n, width))
			}
		}
		if !r.Done() {
			t.Errorf("of width %d: %d left", width, r.Left())
		}
	}
}

// Oc3: texts that are put are read, of many lengths.
func TestTextPutRead(t *testing.T) {
	lengths := []int{0, 1, 2, 255, 256, 257, 65535, 0, 512, 65534}
	random := rand.New(rand.NewSource(2))
	var b []byte
	var texts [][]byte
	for _, n := range lengths {
		text := make([]byte, n)
		random.Read(text)
		texts = append(texts, text)
		b, _ = Text(b, text)
	}
	r := Read(b)
	for i, text := range texts {
		if !bytes.Equal(r.Text(), text) {
			t.Errorf("text %d, of %d bytes", i, lengths[i])
		}
	}
	if !r.Done() {
		t.Errorf("%d left", r.Left())
	}
}

// Oc3: numbers and texts, mixed, and texts within texts.
func TestMixedPutRead(t *testing.T) {
	random := rand.New(rand.NewSource(3))
	for range 200 {
		var b []byte
		var checks []func(r *Reader) bool
		for range random.Intn(20) {
			if random.Intn(2) == 0 {
				width, n := 1+random.Intn(8), random.Uint64()
				b = Num(b, width, n)
				checks = append(checks, func(r *Reader) bool { return r.Num(width) == rest(n, width) })
				continue
			}
			text := make([]byte, random.Intn(40))
			random.Read(text)
			within, _ := Text(nil, text)
			b, _ = Text(b, within)
			checks = append(checks, func(r *Reader) bool {
				inner := Read(r.Text())
				return bytes.Equal(inner.Text(), text) && inner.Done()
			})
		}
		r := Read(b)
		for i, check := range checks {
			if !check(r) || r.Wrong() {
				t.Fatalf("step %d of %x", i, b)
			}
		}
		if !r.Done() {
			t.Fatalf("%d left of %x", r.Left(), b)
		}
	}
}

// byWords reads as the document words it, with a place into bytes that stay.
type byWords struct {
	b     []byte
	place int
	wrong bool
}

func (w *byWords) read(width int, text bool) []byte {
	skip := 0
	if text && len(w.b)-w.place >= 2 {
		skip, width = 2, int(w.b[w.place])*256+int(w.b[w.place+1])
	}
	if w.wrong || width < 0 || !text && (width < 1 || width > 8) || text && skip == 0 || len(w.b)-w.place < skip+width {
		w.wrong = true
		return nil
	}
	got := w.b[w.place+skip : w.place+skip+width]
	w.place += skip + width
	return got
}

// Oc2: any bytes, read in any way, against the document's words.
func TestAnyBytes(t *testing.T) {
	random := rand.New(rand.NewSource(4))
	for range 3000 {
		b := make([]byte, random.Intn(40))
		for i := range b {
			b[i] = byte(random.Intn(4))
		}
		r, w := Read(b), &byWords{b: bytes.Clone(b)}
		for range 12 {
			if random.Intn(2) == 0 {
				if got, want := r.Text(), w.read(0, true); !bytes.Equal(got, want) {
					t.Fatalf("Text of %v = %v, want %v", b, got, want)
				}
			} else {
				width, want := random.Intn(11)-1, uint64(0)
				for _, x := range w.read(width, false) {
					want = want*256 + uint64(x)
				}
				if got := r.Num(width); got != want {
					t.Fatalf("Num(%d) of %v = %d, want %d", width, b, got, want)
				}
			}
			left := len(b) - w.place
			if r.Left() != left || r.Wrong() != w.wrong || r.Done() != (!w.wrong && left == 0) {
				t.Fatalf("of %v: %d left, wrong: %v; want %d, %v", b, r.Left(), r.Wrong(), left, w.wrong)
			}
		}
	}
}

// R3: Num and Text write to nothing that is handed in, also not behind its end, and answer new memory.
func TestPutNewMemory(t *testing.T) {
	whole := []byte("abcdefghijklmnopqrstuvwxyz")
	b := whole[:3]
	text := whole[20:23]
	tooLong := make([]byte, 65536)
	answers := [][]byte{Num(b, 8, math.MaxUint64), Num(b, 1, 0), Num(b, 0, 5), Num(b, 9, 5)}
	for _, x := range [][]byte{text, nil, tooLong} {
		got, _ := Text(b, x)
		answers = append(answers, got)
	}
	for i, got := range answers {
		if string(got[:3]) != "abc" {
			t.Fatalf("answer %d = %q", i, got)
		}
		clear(got)
		clear(append(got, "xxxxxxxx"...))
	}
	if string(whole) != "abcdefghijklmnopqrstuvwxyz" {
		t.Errorf("what was handed in is %q now", whole)
	}
}

// R3: a reader has bytes of its own: what becomes of those handed in does not matter to it, nor its texts to those.
func TestReadNewMemory(t *testing.T) {
	b := []byte("\x00\x03abc\x00\x02de\x05")
	kept := bytes.Clone(b)
	r := Read(b)
	clear(r.Text())
	if !bytes.Equal(b, kept) {
		t.Error("Text answers the memory that was handed in")
	}
	clear(b)
	if got := r.Text(); string(got) != "de" || r.Num(1) != 5 || !r.Done() {
		t.Errorf("Text = %q once what was handed in was turned", got)
	}
}

// The chapter's Ways: a text that was read can't grow into what is yet to be read, nor into another text.
func TestTextGrows(t *testing.T) {
	b := []byte("\x00\x03abc\x00\x00\x00\x02de\x00\x05")
	r := Read(b)
	first := r.Text()
	_ = append(first, "XXXXXXXXX"...)
	empty := r.Text()
	_ = append(empty, "YYYYYYYYY"...)
	second := r.Text()
	_ = append(second, "ZZ"...)
	_ = append(first[:0], "abcUUUU"...)
	if string(first) != "abc" || len(empty) != 0 || string(second) != "de" || r.Num(2) != 5 || !r.Done() {
		t.Errorf("%q, %q, %q", first, empty, second)
	}
	if cap(first) != 3 || cap(empty) != 0 || cap(second) != 2 {
		t.Error("a text has room behind it")
	}
}
