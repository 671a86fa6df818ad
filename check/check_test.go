package check

import (
	"bytes"
	"hash/crc32"
	"math/rand"
	"testing"
)

// byWords is the check as the document words it: bit by bit, each byte's lowest bit first.
func byWords(b []byte) uint32 {
	register := uint32(0xFFFFFFFF)
	for _, x := range b {
		for i := range 8 {
			taken := register & 1
			register >>= 1
			if taken != uint32(x>>i)&1 {
				register ^= 0xEDB88320
			}
		}
	}
	return register ^ 0xFFFFFFFF
}

// texts are texts of many lengths, the same in every run.
func texts() [][]byte {
	r := rand.New(rand.NewSource(1))
	l := [][]byte{nil, {}, {0}, {0xFF}, {0x80}, {1}, make([]byte, 4), make([]byte, 512),
		bytes.Repeat([]byte{0xFF}, 33), []byte("123456789")}
	for n := range 70 {
		b := make([]byte, n)
		r.Read(b)
		l = append(l, b)
	}
	long := make([]byte, 5000)
	r.Read(long)
	return append(l, long)
}

// Ch1: Of, at checks that are known.
func TestOfKnown(t *testing.T) {
	for _, c := range []struct {
		b    []byte
		want uint32
	}{
		{[]byte("123456789"), 0xCBF43926},
		{nil, 0},
		{[]byte{}, 0},
		{[]byte{0}, 0xD202EF8D},
		{[]byte{0xFF}, 0xFF000000},
		{[]byte("a"), 0xE8B7BE43},
		{[]byte("The quick brown fox jumps over the lazy dog"), 0x414FA339},
		{make([]byte, 32), 0x190A55AD},
		{bytes.Repeat([]byte{0xFF}, 32), 0xFF6CAB0B},
	} {
		if got := Of(c.b); got != c.want {
			t.Errorf("Of(%q) = %08X, want %08X", c.b, got, c.want)
		}
	}
}

// Ch1: Of, against the document's words, and against the library's check of the same kind.
func TestOfWords(t *testing.T) {
	for _, b := range texts() {
		got := Of(b)
		if got != byWords(b) || got != crc32.ChecksumIEEE(b) {
			t.Errorf("Of(%x) = %08X, want %08X", b, got, byWords(b))
		}
	}
	for x := range 256 {
		if b := []byte{byte(x)}; Of(b) != byWords(b) {
			t.Errorf("Of(%x) = %08X, want %08X", b, Of(b), byWords(b))
		}
	}
}

// Ch1, Ch2: no parts, and empty ones, count for nothing.
func TestOfEmptyParts(t *testing.T) {
	if Of() != 0 || Of(nil) != 0 || Of([]byte{}, nil, []byte{}) != 0 || Of([][]byte{}...) != 0 {
		t.Error("the check of no bytes is not 0")
	}
	b := []byte("123456789")
	for _, l := range [][][]byte{
		{nil, b}, {b, nil}, {{}, b, {}}, {b[:4], nil, {}, b[4:]}, {nil, b[:1], {}, b[1:], nil},
	} {
		if Of(l...) != 0xCBF43926 {
			t.Errorf("Of(%q) = %08X", l, Of(l...))
		}
	}
}

// Ch2: how bytes are parted does not matter.
func TestOfParted(t *testing.T) {
	for _, b := range texts()[:50] {
		want := byWords(b)
		single := make([][]byte, 0, len(b))
		for i := range b {
			single = append(single, b[i:i+1])
		}
		if Of(single...) != want {
			t.Errorf("%x byte by byte", b)
		}
		for i := 0; i <= len(b); i++ {
			for j := i; j <= len(b); j++ {
				if Of(b[:i], b[i:j], b[j:]) != want {
					t.Fatalf("%x parted at %d and %d", b, i, j)
				}
			}
		}
	}
}

// Ch1: the order of the parts does matter.
func TestOfOrder(t *testing.T) {
	if Of([]byte("1234"), []byte("56789")) == Of([]byte("56789"), []byte("1234")) {
		t.Error("parts the other way round have the same check")
	}
	if Of([]byte{0}) == Of([]byte{0}, []byte{0}) {
		t.Error("a nought more has the same check")
	}
}

// Ch2: three texts of one length, exclusive-ored.
func TestOfThree(t *testing.T) {
	r := rand.New(rand.NewSource(2))
	for n := range 100 {
		a, b, c, all := make([]byte, n), make([]byte, n), make([]byte, n), make([]byte, n)
		r.Read(a)
		r.Read(b)
		r.Read(c)
		for i := range all {
			all[i] = a[i] ^ b[i] ^ c[i]
		}
		if Of(all) != Of(a)^Of(b)^Of(c) {
			t.Errorf("three texts of %d bytes", n)
		}
	}
}

// turned is bytes with those bits turned that the pattern has, from the bit at on, each byte's lowest first.
func turned(b []byte, at int, pattern uint32) []byte {
	c := bytes.Clone(b)
	for i := range 32 {
		if k := at + i; pattern>>i&1 == 1 && k < 8*len(c) {
			c[k/8] ^= 1 << (k % 8)
		}
	}
	return c
}

// patterns are patterns of 32 bits, the lowest of which is set.
func patterns() []uint32 {
	l := []uint32{1, 3, 0x80000001, 0xFFFFFFFF, 0xEDB88321, 0x04C11DB7, 0xDB710641, 0x55555555}
	for i := range 32 {
		l = append(l, 1|1<<i)
	}
	r := rand.New(rand.NewSource(3))
	for range 200 {
		l = append(l, r.Uint32()|1)
	}
	return l
}

// Ch2: bits turned within 32 in a row make another check, and so what was sealed is not opened.
func TestTurned(t *testing.T) {
	r := rand.New(rand.NewSource(4))
	for _, n := range []int{1, 2, 4, 5, 9, 40} {
		b := make([]byte, n)
		r.Read(b)
		sealed := Seal(b)
		for _, p := range patterns() {
			for at := range 8 * n {
				c := turned(b, at, p)
				if Of(c) == Of(b) {
					t.Fatalf("%x with %08X turned at bit %d has the same check", b, p, at)
				}
				spoilt := append(c, sealed[n:]...)
				if x, ok := Open(spoilt); ok || len(x) != 0 {
					t.Fatalf("%x was opened", spoilt)
				}
			}
		}
	}
}

// Ch1: Seal, at bytes that are known.
func TestSealKnown(t *testing.T) {
	if got := Seal([]byte("123456789")); string(got) != "123456789\xCB\xF4\x39\x26" {
		t.Errorf("Seal = %x", got)
	}
	if got := Seal([]byte{0}); !bytes.Equal(got, []byte{0, 0xD2, 0x02, 0xEF, 0x8D}) {
		t.Errorf("Seal = %x", got)
	}
	if !bytes.Equal(Seal(nil), make([]byte, 4)) || !bytes.Equal(Seal([]byte{}), make([]byte, 4)) {
		t.Error("Seal of no bytes")
	}
}

// Ch2: what was sealed is opened.
func TestSealOpen(t *testing.T) {
	for _, b := range texts() {
		sealed := Seal(b)
		if len(sealed) != len(b)+4 || !bytes.Equal(sealed[:len(b)], b) {
			t.Errorf("Seal(%x) = %x", b, sealed)
		}
		if got, ok := Open(sealed); !ok || !bytes.Equal(got, b) {
			t.Errorf("Open(%x) = %x, %v", sealed, got, ok)
		}
		// Sealed twice, it is opened twice.
		if got, ok := Open(Seal(sealed)); !ok || !bytes.Equal(got, sealed) {
			t.Errorf("%x, sealed twice", b)
		}
	}
}

// Ch1: four noughts are no bytes and their check.
func TestOpenNoBytes(t *testing.T) {
	if got, ok := Open(make([]byte, 4)); !ok || len(got) != 0 {
		t.Errorf("Open of four noughts = %x, %v", got, ok)
	}
}

// Ch1: what is too short, or has another check, is not opened, and nothing is answered.
func TestOpenWrong(t *testing.T) {
	sealed := Seal([]byte("123456789"))
	wrong := [][]byte{
		nil, {}, {0}, {0, 0}, {0, 0, 0}, {0xFF, 0xFF, 0xFF}, sealed[:1], sealed[10:],
		{0, 0, 0, 1}, {1, 0, 0, 0}, {0xFF, 0xFF, 0xFF, 0xFF}, make([]byte, 5),
		sealed[:12], sealed[1:], sealed[:9], append(bytes.Clone(sealed), 0), append([]byte{0}, sealed...),
		[]byte("123456789\x26\x39\xF4\xCB"),
		[]byte("123456789\x34\x0B\xC6\xD9"),
		[]byte("\xCB\xF4\x39\x26123456789"),
		[]byte("123456788\xCB\xF4\x39\x26"),
	}
	for _, b := range wrong {
		if got, ok := Open(b); ok || len(got) != 0 {
			t.Errorf("Open(%x) = %x, %v", b, got, ok)
		}
	}
}

// Ch1: bits turned in the check alone, any of them, spoil it.
func TestOpenCheckTurned(t *testing.T) {
	for _, b := range texts()[:20] {
		sealed := Seal(b)
		for _, p := range patterns() {
			spoilt := turned(sealed, 8*len(b), p)
			if got, ok := Open(spoilt); ok || len(got) != 0 {
				t.Fatalf("Open(%x) = %x, %v", spoilt, got, ok)
			}
		}
	}
}

// R3: nothing that is handed in is written to, also not behind its end; what is answered is new memory.
func TestNewMemory(t *testing.T) {
	whole := []byte("123456789abcdefgh")
	kept := bytes.Clone(whole)
	b := whole[:9]
	sealed := Seal(b)
	Of(b, whole)
	if !bytes.Equal(whole, kept) {
		t.Fatal("what was handed in was written to")
	}
	sealed[0] = 'x'
	if whole[0] != '1' {
		t.Error("Seal answers the memory that it was handed")
	}
	sealed[0] = '1'
	opened, ok := Open(sealed)
	if !ok || string(sealed) != "123456789\xCB\xF4\x39\x26" {
		t.Fatal("Open wrote to what it was handed, or did not open it")
	}
	_ = append(opened, 'x', 'x', 'x', 'x')
	opened[0] = 'y'
	if string(sealed) != "123456789\xCB\xF4\x39\x26" {
		t.Error("Open answers the memory that it was handed")
	}
}
