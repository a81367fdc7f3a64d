// Package limbs is layer 1: numbers of 256 bits. See shared/doc/01-limbs.md.
package limbs

import (
	"math/bits"

	"sandglass/api"
)

// size is the number of bytes of a number.
const size = 32

// Add answers the sum modulo 2^256, and whether it is 2^256 or more.
func Add(a, b api.Num) (api.Num, bool) {
	w0, carry := bits.Add64(a[0], b[0], 0)
	w1, carry := bits.Add64(a[1], b[1], carry)
	w2, carry := bits.Add64(a[2], b[2], carry)
	w3, carry := bits.Add64(a[3], b[3], carry)
	return api.Num{w0, w1, w2, w3}, carry != 0
}

// Sub answers the difference modulo 2^256, and whether a is less than b.
func Sub(a, b api.Num) (api.Num, bool) {
	w0, borrow := bits.Sub64(a[0], b[0], 0)
	w1, borrow := bits.Sub64(a[1], b[1], borrow)
	w2, borrow := bits.Sub64(a[2], b[2], borrow)
	w3, borrow := bits.Sub64(a[3], b[3], borrow)
	return api.Num{w0, w1, w2, w3}, borrow != 0
}

// Cmp answers -1, 0, 1, as a is less than, is, is greater than b.
func Cmp(a, b api.Num) int {
	if a == b {
		return 0
	}
	if _, less := Sub(a, b); less {
		return -1
	}
	return 1
}

// Mul answers the product's lower 256 bits, and its upper ones.
func Mul(a, b api.Num) (api.Num, api.Num) {
	var p [8]uint64
	for i := range a {
		var carry uint64
		for j := range b {
			carry, p[i+j] = mulAdd(a[i], b[j], p[i+j], carry)
		}
		p[i+4] = carry
	}
	return api.Num{p[0], p[1], p[2], p[3]}, api.Num{p[4], p[5], p[6], p[7]}
}

// mulAdd answers x*y + c + d, the higher word first. Two words always hold it: (w-1)^2 + 2(w-1) = w^2 - 1, where w is 2^64.
func mulAdd(x, y, c, d uint64) (uint64, uint64) {
	high, low := bits.Mul64(x, y)
	low, first := bits.Add64(low, c, 0)
	low, second := bits.Add64(low, d, 0)
	return high + first + second, low
}

// Bytes answers the number's 32 bytes, the highest first.
func Bytes(a api.Num) string {
	var text [size]byte
	for i := range text {
		text[size-1-i] = byte(a[i/8] >> (i % 8 * 8))
	}
	return string(text[:])
}

// From answers the number of 32 bytes, the highest first; ErrSize of other texts.
func From(s string) (api.Num, api.Errno) {
	if len(s) != size {
		return api.Num{}, api.ErrSize
	}
	var a api.Num
	for i := range size {
		word := 3 - i/8
		a[word] = a[word]<<8 | uint64(s[i])
	}
	return a, api.OK
}

// Bit answers bit i; false, unless i is 0 to 255.
func Bit(a api.Num, i int) bool {
	if i < 0 || i > 255 {
		return false
	}
	return a[i/64]>>(i%64)&1 == 1
}
