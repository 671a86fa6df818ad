// Package check is layer 1: a check of bytes: see shared/doc/01-check.md.
package check

import "bytes"

// width is how many bytes a check has behind what is sealed.
const width = 4

// turn is what the register is turned by where its lowest bit and the byte's are unlike.
const turn uint32 = 0xEDB88320

// Of is the check of bytes, in parts.
func Of(parts ...[]byte) uint32 {
	register := ^uint32(0)
	for _, part := range parts {
		for _, b := range part {
			register = step(register, b)
		}
	}
	return ^register
}

// step takes one byte into the register. The byte's bits are laid on all at once, not each when
// its turn comes: exclusive or does not mind the order, and each shift brings the next one down.
func step(register uint32, b byte) uint32 {
	register ^= uint32(b)
	for range 8 {
		low := register & 1
		register >>= 1
		if low == 1 {
			register ^= turn
		}
	}
	return register
}

// Seal is bytes with their check.
func Seal(b []byte) []byte {
	// To append to b itself could write to what the caller has behind b's end.
	sealed := append(make([]byte, 0, len(b)+width), b...)
	c := Of(b)
	return append(sealed, byte(c>>24), byte(c>>16), byte(c>>8), byte(c))
}

// Open is bytes without their check; false: it is not theirs.
func Open(b []byte) ([]byte, bool) {
	if len(b) < width {
		return nil, false
	}
	n := len(b) - width
	// Sealed anew, they are new memory as well, which the answer can be taken of.
	anew := Seal(b[:n])
	if !bytes.Equal(anew, b) {
		return nil, false
	}
	return anew[:n:n], true
}
