package page

import (
	"bytes"
	"encoding/binary"
	"fmt"
	"hash/crc32"
	"math"
	"math/rand"
	"testing"

	"waymark/api"
)

// laid is a sector as the document words it, of any numbers, whether a page may have them or not:
// n is the length that is told, which need not be that of b.
func laid(p api.Page, n int, b []byte) []byte {
	s := make([]byte, 512)
	copy(s, "WAY")
	s[3] = byte(p.Kind)
	binary.BigEndian.PutUint32(s[4:], uint32(p.Gen))
	binary.BigEndian.PutUint32(s[8:], uint32(p.Mark))
	binary.BigEndian.PutUint32(s[12:], uint32(p.Index))
	s[16], s[17] = byte(p.Part), byte(p.Parts)
	binary.BigEndian.PutUint16(s[18:], uint16(n))
	copy(s[20:508], b)
	return resealed(s)
}

// resealed is a sector whose check is made anew.
func resealed(s []byte) []byte {
	s = bytes.Clone(s)
	binary.BigEndian.PutUint32(s[508:], crc32.ChecksumIEEE(s[:508]))
	return s
}

// may tells, as the document words it, whether a page may be.
func may(p api.Page) bool {
	if p.Kind < 1 || p.Kind > 9 || p.Parts < 1 || p.Parts > 16 || p.Part < 0 || p.Part > p.Parts-1 {
		return false
	}
	for _, n := range []int{p.Gen, p.Mark, p.Index} {
		if n < 0 || n > 2147483648 {
			return false
		}
	}
	return len(p.B) <= 488
}

// pages are pages that may be: those at the edges of each number, and others, the same in every run.
func pages() []api.Page {
	r := rand.New(rand.NewSource(1))
	l := []api.Page{
		{Kind: 1, Parts: 1},
		{Kind: 9, Gen: 1 << 31, Mark: 1 << 31, Index: 1 << 31, Part: 15, Parts: 16, B: bytes.Repeat([]byte{255}, 488)},
		{Kind: 2, Gen: 1, Mark: 2, Index: 3, Part: 4, Parts: 5, B: []byte{}},
		{Kind: 3, Gen: 1<<31 - 1, Mark: 255, Index: 256, Part: 0, Parts: 16, B: make([]byte, 488)},
		{Kind: 4, Parts: 2, Part: 1, B: make([]byte, 1)},
		{Kind: 5, Parts: 3, Part: 1, B: []byte("WAY")},
	}
	for kind := 1; kind <= 9; kind++ {
		l = append(l, api.Page{Kind: kind, Gen: kind, Parts: 1, B: []byte{byte(kind)}})
	}
	for parts := 1; parts <= 16; parts++ {
		l = append(l, api.Page{Kind: 1, Part: parts - 1, Parts: parts}, api.Page{Kind: 1, Parts: parts})
	}
	for _, n := range []int{0, 1, 2, 255, 256, 257, 487, 488} {
		b := make([]byte, n)
		r.Read(b)
		l = append(l, api.Page{Kind: 6, Mark: n, Parts: 1, B: b})
	}
	for range 100 {
		b := make([]byte, r.Intn(489))
		r.Read(b)
		parts := 1 + r.Intn(16)
		l = append(l, api.Page{
			Kind: 1 + r.Intn(9), Gen: r.Intn(1<<31 + 1), Mark: r.Intn(1<<31 + 1), Index: r.Intn(1<<31 + 1),
			Part: r.Intn(parts), Parts: parts, B: b,
		})
	}
	return l
}

// unlike are pages that are as p is but for one thing each.
func unlike(p api.Page) []api.Page {
	l := make([]api.Page, 9)
	for i := range l {
		l[i] = p
	}
	l[0].Kind++
	l[1].Gen++
	l[2].Mark++
	l[3].Index++
	l[4].Part++
	l[5].Parts++
	l[6].B = append(bytes.Clone(p.B), 0)
	if len(p.B) == 0 {
		return l[:7]
	}
	l[7].B = p.B[:len(p.B)-1]
	l[8].B = bytes.Clone(p.B)
	l[8].B[len(p.B)/2]++
	return l
}

// alike tells, by each thing that a page has, whether two are the same.
func alike(a, b api.Page) bool {
	return fmt.Sprint(a.Kind, a.Gen, a.Mark, a.Index, a.Part, a.Parts) == fmt.Sprint(b.Kind, b.Gen, b.Mark, b.Index, b.Part, b.Parts) &&
		string(a.B) == string(b.B)
}

// put is a page's sector, which must not be refused.
func put(t *testing.T, p api.Page) []byte {
	t.Helper()
	b, e := Put(p)
	if e != api.OK {
		t.Fatalf("Put(%v) = %d", p, e)
	}
	return b
}

// isNone fails if these bytes are some page's sector, or if something is answered beside the error.
func isNone(t *testing.T, b []byte, what string) {
	t.Helper()
	p, e := Get(b)
	if e != api.ErrText || p.B != nil || !alike(p, api.Page{}) {
		t.Fatalf("%s: Get = %v, %d", what, p, e)
	}
}

// Pg1: Put, at bytes that are known.
func TestPutKnown(t *testing.T) {
	got := put(t, api.Page{Kind: 9, Gen: 0x01020304, Mark: 0x80000000, Index: 0x7FFFFFFF, Part: 2, Parts: 16, B: []byte("abc")})
	head := "WAY\x09\x01\x02\x03\x04\x80\x00\x00\x00\x7F\xFF\xFF\xFF\x02\x10\x00\x03abc"
	if len(got) != 512 || string(got[:23]) != head || !bytes.Equal(got[23:508], make([]byte, 485)) {
		t.Fatalf("Put = %x", got)
	}
	c := crc32.ChecksumIEEE(got[:508])
	if !bytes.Equal(got[508:], []byte{byte(c >> 24), byte(c >> 16), byte(c >> 8), byte(c)}) {
		t.Errorf("the check is %x", got[508:])
	}
}

// Pg1: a page without bytes has a sector of 512, and one with as many as there is room for too.
func TestPutSize(t *testing.T) {
	for _, b := range [][]byte{nil, {}, {1}, make([]byte, 487), make([]byte, 488)} {
		if got := put(t, api.Page{Kind: 1, Parts: 1, B: b}); len(got) != 512 {
			t.Errorf("a page of %d bytes has a sector of %d", len(b), len(got))
		}
	}
}

// Pg1: Put, against the document's words.
func TestPutWords(t *testing.T) {
	for _, p := range pages() {
		if got := put(t, p); !bytes.Equal(got, laid(p, len(p.B), p.B)) {
			t.Errorf("Put(%v) = %x", p, got)
		}
	}
}

// edges are numbers at the edges that pages have, and far off them.
var edges = []int{
	math.MinInt, -1 << 32, -1 << 31, -256, -2, -1, 0, 1, 2, 8, 9, 10, 11, 15, 16, 17, 18, 255, 256, 257, 265, 272,
	1<<31 - 1, 1 << 31, 1<<31 + 1, 1<<32 - 1, 1 << 32, 1<<32 + 1, 1<<32 + 9, math.MaxInt,
}

// Pg1: ErrArg, and nothing, of a page that may not be: each number at all its edges.
func TestPutMay(t *testing.T) {
	try := func(p api.Page) {
		t.Helper()
		got, e := Put(p)
		if !may(p) && (e != api.ErrArg || got != nil) {
			t.Errorf("Put(%v) = %x, %d", p, got, e)
		}
		if may(p) && (e != api.OK || !bytes.Equal(got, laid(p, len(p.B), p.B))) {
			t.Errorf("Put(%v) = %x, %d", p, got, e)
		}
	}
	for _, n := range edges {
		for _, set := range []func(p *api.Page){
			func(p *api.Page) { p.Kind = n },
			func(p *api.Page) { p.Gen = n },
			func(p *api.Page) { p.Mark = n },
			func(p *api.Page) { p.Index = n },
			func(p *api.Page) { p.Gen, p.Mark = n, n },
		} {
			p := api.Page{Kind: 1, Gen: 1, Mark: 1, Index: 1, Parts: 1}
			set(&p)
			try(p)
		}
		for _, parts := range edges {
			try(api.Page{Kind: 1, Part: n, Parts: parts})
		}
	}
	for _, n := range []int{488, 489, 490, 508, 512, 65535, 65536, 65536 + 3} {
		try(api.Page{Kind: 1, Parts: 1, B: make([]byte, n)})
	}
	try(api.Page{})
}

// Pg1: the edges of what may be, by their numbers alone.
func TestPutEdges(t *testing.T) {
	for i, c := range []struct {
		p    api.Page
		want api.Errno
	}{
		{api.Page{Kind: 0, Parts: 1}, api.ErrArg},
		{api.Page{Kind: 1, Parts: 1}, api.OK},
		{api.Page{Kind: 9, Parts: 1}, api.OK},
		{api.Page{Kind: 10, Parts: 1}, api.ErrArg},
		{api.Page{Kind: 1, Gen: 1 << 31, Mark: 1 << 31, Index: 1 << 31, Parts: 1}, api.OK},
		{api.Page{Kind: 1, Gen: 1<<31 + 1, Parts: 1}, api.ErrArg},
		{api.Page{Kind: 1, Mark: 1<<31 + 1, Parts: 1}, api.ErrArg},
		{api.Page{Kind: 1, Index: 1<<31 + 1, Parts: 1}, api.ErrArg},
		{api.Page{Kind: 1, Gen: -1, Parts: 1}, api.ErrArg},
		{api.Page{Kind: 1, Mark: -1, Parts: 1}, api.ErrArg},
		{api.Page{Kind: 1, Index: -1, Parts: 1}, api.ErrArg},
		{api.Page{Kind: 1, Parts: 0}, api.ErrArg},
		{api.Page{Kind: 1, Part: -1, Parts: 0}, api.ErrArg},
		{api.Page{Kind: 1, Part: -1, Parts: 1}, api.ErrArg},
		{api.Page{Kind: 1, Part: 15, Parts: 16}, api.OK},
		{api.Page{Kind: 1, Part: 16, Parts: 16}, api.ErrArg},
		{api.Page{Kind: 1, Part: 16, Parts: 17}, api.ErrArg},
		{api.Page{Kind: 1, Part: 0, Parts: 17}, api.ErrArg},
		{api.Page{Kind: 1, Part: 1, Parts: 1}, api.ErrArg},
		{api.Page{Kind: 1, Parts: 1, B: make([]byte, 488)}, api.OK},
		{api.Page{Kind: 1, Parts: 1, B: make([]byte, 489)}, api.ErrArg},
	} {
		if got, e := Put(c.p); e != c.want || (len(got) == 512) != (c.want == api.OK) {
			t.Errorf("%d: Put = %d bytes, %d, want %d", i, len(got), e, c.want)
		}
	}
}

// Pg2: what is put is got.
func TestPutGet(t *testing.T) {
	for _, p := range pages() {
		if got, e := Get(put(t, p)); e != api.OK || !alike(got, p) {
			t.Errorf("Get(Put(%v)) = %v, %d", p, got, e)
		}
	}
}

// Pg1: Get, of a sector that was laid by the document's words.
func TestGetWords(t *testing.T) {
	for _, p := range pages() {
		if got, e := Get(laid(p, len(p.B), p.B)); e != api.OK || !alike(got, p) {
			t.Errorf("Get of the sector of %v = %v, %d", p, got, e)
		}
	}
}

// Pg1: ErrText of bytes that are not as many as a sector has.
func TestGetLength(t *testing.T) {
	b := put(t, api.Page{Kind: 1, Gen: 3, Parts: 1, B: []byte{7}})
	for _, n := range []int{0, 1, 3, 4, 19, 20, 21, 24, 25, 508, 511} {
		isNone(t, b[:n], fmt.Sprint("the first ", n))
		isNone(t, b[512-n:], fmt.Sprint("the last ", n))
	}
	isNone(t, nil, "no bytes")
	isNone(t, append(bytes.Clone(b), 0), "a nought more")
	isNone(t, append([]byte{0}, b...), "a nought ahead")
	isNone(t, append(bytes.Clone(b), b...), "two sectors")
	// Sealed right, but with fewer noughts, or more, than a sector has.
	for _, n := range []int{21, 22, 507, 509, 600} {
		s := make([]byte, n)
		copy(s, b[:21])
		isNone(t, binary.BigEndian.AppendUint32(s, crc32.ChecksumIEEE(s)), fmt.Sprint("sealed behind ", n))
	}
}

// Pg1: ErrText of noughts, of ones, and of what is no sector at all.
func TestGetNoPage(t *testing.T) {
	isNone(t, make([]byte, 512), "noughts")
	isNone(t, resealed(make([]byte, 512)), "noughts, sealed")
	isNone(t, bytes.Repeat([]byte{255}, 512), "ones")
	isNone(t, resealed(bytes.Repeat([]byte{255}, 512)), "ones, sealed")
	isNone(t, bytes.Repeat([]byte("WAY"), 171)[:512], "signs")
	r := rand.New(rand.NewSource(2))
	for range 200 {
		b := make([]byte, 512)
		r.Read(b)
		isNone(t, b, "any bytes")
		isNone(t, resealed(b), "any bytes, sealed")
	}
}

// Pg1: ErrText of a sector with another sign, though its check is right.
func TestGetSign(t *testing.T) {
	b := put(t, api.Page{Kind: 1, Gen: 3, Parts: 1, B: []byte{7}})
	for _, sign := range []string{"way", "WAX", "XAY", "WBY", "\x00\x00\x00", "YAW", "Way"} {
		s := bytes.Clone(b)
		copy(s, sign)
		isNone(t, resealed(s), sign)
	}
}

// Pg1: ErrText of a sector with numbers that no page may have, though its check is right.
func TestGetMayNotBe(t *testing.T) {
	for _, p := range []api.Page{
		{Kind: 0, Parts: 1}, {Kind: 10, Parts: 1}, {Kind: 255, Parts: 1},
		{Kind: 1, Gen: 1<<31 + 1, Parts: 1}, {Kind: 1, Mark: 1<<31 + 1, Parts: 1}, {Kind: 1, Index: 1<<31 + 1, Parts: 1},
		{Kind: 1, Gen: 1<<32 - 1, Parts: 1}, {Kind: 1, Mark: 1<<32 - 1, Parts: 1}, {Kind: 1, Index: 1<<32 - 1, Parts: 1},
		{Kind: 1, Parts: 0}, {Kind: 1, Parts: 17}, {Kind: 1, Parts: 255}, {Kind: 1, Part: 255, Parts: 0},
		{Kind: 1, Part: 1, Parts: 1}, {Kind: 1, Part: 16, Parts: 16}, {Kind: 1, Part: 16, Parts: 17}, {Kind: 1, Part: 255, Parts: 16},
	} {
		isNone(t, laid(p, 0, nil), fmt.Sprint(p))
	}
}

// Pg1: ErrText of a sector that tells of more bytes than there is room for, though its check is right.
func TestGetTooLong(t *testing.T) {
	p := api.Page{Kind: 1, Parts: 1}
	for _, n := range []int{489, 490, 491, 492, 493, 508, 512, 65535} {
		isNone(t, laid(p, n, nil), fmt.Sprint(n, " noughts told"))
		isNone(t, laid(p, n, bytes.Repeat([]byte{255}, 488)), fmt.Sprint(n, " ones told"))
	}
}

// Pg1: ErrText of a sector with other than noughts behind its bytes, though its check is right.
func TestGetNoNoughts(t *testing.T) {
	for _, n := range []int{0, 1, 100, 486, 487} {
		b := put(t, api.Page{Kind: 1, Parts: 1, B: bytes.Repeat([]byte{5}, n)})
		for at := 20 + n; at < 508; at++ {
			s := bytes.Clone(b)
			s[at] = 1
			isNone(t, resealed(s), fmt.Sprint(n, " bytes, and one at ", at))
		}
		// Told to be shorter, its last byte is one of the noughts, and is none.
		if n > 0 {
			isNone(t, laid(api.Page{Kind: 1, Parts: 1}, n-1, bytes.Repeat([]byte{5}, n)), "one byte untold")
		}
	}
}

// Pg1: ErrText of a sector with another check.
func TestGetCheck(t *testing.T) {
	b := put(t, api.Page{Kind: 1, Gen: 3, Parts: 1, B: []byte{7}})
	for i := 508; i < 512; i++ {
		for x := 1; x < 256; x++ {
			s := bytes.Clone(b)
			s[i] ^= byte(x)
			isNone(t, s, fmt.Sprint("the check's byte ", i-508, " turned by ", x))
		}
	}
	c := crc32.ChecksumIEEE(b[:508])
	for _, wrong := range []uint32{0, ^uint32(0), ^c, c + 1} {
		isNone(t, binary.BigEndian.AppendUint32(bytes.Clone(b[:508]), wrong), "another check")
	}
	isNone(t, binary.LittleEndian.AppendUint32(bytes.Clone(b[:508]), c), "the check's lowest byte first")
}

// Pg2: no other bytes are that page's sector: a sector that is changed at a byte, and sealed again, is
// none's, or that of the page which has just these bytes.
func TestNoOtherBytes(t *testing.T) {
	for _, p := range pages()[:8] {
		b := put(t, p)
		for at := range 508 {
			for _, x := range []byte{1, 2, 16, 128, 255} {
				s := bytes.Clone(b)
				s[at] ^= x
				s = resealed(s)
				got, e := Get(s)
				if e == api.OK && (alike(got, p) || !bytes.Equal(s, laid(got, len(got.B), got.B)) || !may(got)) {
					t.Fatalf("%v, turned at %d by %d: %v", p, at, x, got)
				}
				if e != api.OK && (e != api.ErrText || !alike(got, api.Page{})) {
					t.Fatalf("%v, turned at %d by %d: %v, %d", p, at, x, got, e)
				}
			}
		}
	}
}

// Pg2: unlike pages have unlike sectors.
func TestUnlikeSectors(t *testing.T) {
	p := api.Page{Kind: 2, Gen: 3, Mark: 4, Index: 5, Part: 6, Parts: 9, B: []byte{7, 0}}
	for _, q := range unlike(p) {
		if bytes.Equal(put(t, p), put(t, q)) {
			t.Errorf("%v and %v have one sector", p, q)
		}
	}
}

// Pg1: Get tells what any sealed sector is as the document's words tell it.
func TestGetAny(t *testing.T) {
	r := rand.New(rand.NewSource(3))
	pick := func(l ...int) int { return l[r.Intn(len(l))] }
	found := 0
	for range 20000 {
		p := api.Page{
			Kind: pick(0, 1, 2, 9, 9, 10, 200), Gen: pick(0, 7, 1<<31, 1<<31, 1<<31+1), Mark: pick(0, 8, 1<<31, 1<<31+1),
			Index: pick(0, 9, 1<<31, 1<<31+1), Part: pick(0, 0, 1, 15, 16), Parts: pick(0, 1, 2, 16, 16, 17),
		}
		n := pick(0, 1, 2, 487, 488, 489)
		b := make([]byte, min(488, max(0, n+pick(0, 0, 0, 1, -1))))
		for i := range b {
			b[i] = byte(1 + r.Intn(255))
		}
		s := laid(p, n, b)
		p.B = s[20:min(508, 20+n)]
		want := n <= 488 && len(b) <= n && may(p)
		if got, e := Get(s); (e == api.OK) != want || want && !alike(got, p) || !want && (e != api.ErrText || !alike(got, api.Page{})) {
			t.Fatalf("%v with %d told: %v, %d", p, n, got, e)
		}
		if want {
			found++
		}
	}
	if found < 100 {
		t.Errorf("%d pages alone", found)
	}
}

// burst turns those bits that the pattern has, from the bit at on, each byte's lowest first, if they are ahead of the check.
func burst(b []byte, at int, pattern uint32) []byte {
	s := bytes.Clone(b)
	run := uint64(pattern) << (at % 8)
	for i := at / 8; i < 508 && run != 0; i++ {
		s[i] ^= byte(run)
		run >>= 8
	}
	return s
}

// Pg2: a sector some of whose bits ahead of the check are turned, all within 32 in a row, is none's.
func TestBurst(t *testing.T) {
	l := pages()
	r := rand.New(rand.NewSource(4))
	patterns := []uint32{1, 3, 0x80000001, 0xFFFFFFFF, 0xEDB88321, 0x04C11DB7, 0xDB710641, 0x55555555, 0x01010101}
	for _, p := range l[:3] {
		b := put(t, p)
		for at := range 8 * 508 {
			for _, pattern := range patterns {
				isNone(t, burst(b, at, pattern), fmt.Sprintf("%v, %08X turned at bit %d", p, pattern, at))
			}
		}
	}
	for range 20000 {
		p, at, pattern := l[r.Intn(len(l))], r.Intn(8*508), r.Uint32()|1
		isNone(t, burst(put(t, p), at, pattern), fmt.Sprintf("%v, %08X turned at bit %d", p, pattern, at))
	}
}

// Pg1: Blank, of noughts, of fewer and of more, and of noughts but for one byte.
func TestBlank(t *testing.T) {
	b := make([]byte, 512)
	if !Blank(b) {
		t.Error("512 noughts are not blank")
	}
	for _, n := range []int{0, 1, 4, 508, 511, 513, 1024} {
		if Blank(make([]byte, n)) {
			t.Errorf("%d noughts are blank", n)
		}
	}
	if Blank(nil) {
		t.Error("no bytes are blank")
	}
	for i := range b {
		for _, x := range []byte{1, 128, 255} {
			b[i] = x
			if Blank(b) {
				t.Errorf("a sector with %d at %d is blank", x, i)
			}
		}
		b[i] = 0
	}
	for _, p := range pages() {
		if Blank(put(t, p)) {
			t.Errorf("the sector of %v is blank", p)
		}
	}
}

// Pg1: Same, of pages that may be and of others.
func TestSame(t *testing.T) {
	l := append(pages(), api.Page{}, api.Page{Kind: -1, Gen: math.MinInt, Mark: math.MaxInt, Index: -5, Part: 99, Parts: -99},
		api.Page{Kind: 10, Parts: 17, B: make([]byte, 489)})
	for i, p := range l {
		again := p
		again.B = bytes.Clone(p.B)
		if !Same(p, again) || !Same(again, p) {
			t.Errorf("%v is not the same as itself", p)
		}
		for k, q := range unlike(p) {
			if Same(p, q) || Same(q, p) {
				t.Errorf("%v and its unlike %d are the same", p, k)
			}
		}
		for _, q := range l[:i] {
			if Same(p, q) != alike(p, q) {
				t.Errorf("Same(%v, %v) = %v", p, q, Same(p, q))
			}
		}
	}
}

// R5: no bytes, and none, are the same; they have the same sector.
func TestNoBytes(t *testing.T) {
	none, empty := api.Page{Kind: 1, Parts: 1}, api.Page{Kind: 1, Parts: 1, B: []byte{}}
	if !Same(none, empty) || !Same(empty, none) || !bytes.Equal(put(t, none), put(t, empty)) {
		t.Error("no bytes and an empty list are not the same")
	}
	if got, e := Get(put(t, none)); e != api.OK || len(got.B) != 0 || !Same(got, none) {
		t.Errorf("Get = %v, %d", got, e)
	}
}

// R3: nothing that is handed in is written to, also not behind its end; what is answered is new memory.
func TestNewMemory(t *testing.T) {
	whole := []byte("123456789abcdefgh")
	p := api.Page{Kind: 1, Parts: 1, B: whole[:9]}
	b := put(t, p)
	Same(p, p)
	if string(whole) != "123456789abcdefgh" {
		t.Fatal("what was handed in was written to")
	}
	kept := append(bytes.Clone(b), "behind"...)
	handed := bytes.Clone(kept)[:512]
	got, e := Get(handed)
	Blank(handed)
	if e != api.OK || !bytes.Equal(handed[:518], kept) {
		t.Fatal("Get or Blank wrote to what it was handed, or Get did not get it")
	}
	_ = append(got.B, 'x', 'x', 'x')
	got.B[0] = 'y'
	b[21] = 'z'
	if !bytes.Equal(handed[:518], kept) || string(whole) != "123456789abcdefgh" {
		t.Error("the answer is memory that was handed in")
	}
	if again, e := Get(handed); e != api.OK || string(again.B) != "123456789" {
		t.Errorf("Get again = %v, %d", again, e)
	}
}
