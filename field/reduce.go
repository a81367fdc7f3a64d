package field

import (
	"math/bits"

	"sandglass/api"
	"sandglass/limbs"
)

// square is 2^512 modulo p.
var square = api.Num{0x0000000000000003, 0xfffffffbffffffff, 0xfffffffffffffffe, 0x00000004fffffffd}

// scaled answers a * 2^256 modulo p.
func scaled(a api.Num) api.Num { return product(a, square) }

// product answers a * b / 2^256 modulo p (Montgomery's product). It asks for no division, and of scaled numbers it is their product, scaled.
func product(a, b api.Num) api.Num {
	low, high := limbs.Mul(a, b)
	w0, w1, w2, w3 := shift(low[0], low[1], low[2], low[3])
	w0, w1, w2, w3 = shift(w0, w1, w2, w3)
	w0, w1, w2, w3 = shift(w0, w1, w2, w3)
	w0, w1, w2, w3 = shift(w0, w1, w2, w3)
	w0, carry := bits.Add64(w0, high[0], 0)
	w1, carry = bits.Add64(w1, high[1], carry)
	w2, carry = bits.Add64(w2, high[2], carry)
	w3, carry = bits.Add64(w3, high[3], carry)
	return settle(w0, w1, w2, w3, carry)
}

// shift answers a number that is, modulo p, the number of the words / 2^64. It adds w0 * p = w0 * p3 * 2^192 + w0 * 2^96 - w0, which makes the lowest word 0. The sum is less than 2^320, as p is less than 2^256 - 2^192, so that the last word holds its carry.
func shift(w0, w1, w2, w3 uint64) (uint64, uint64, uint64, uint64) {
	high, low := bits.Mul64(w0, p3)
	w1, carry := bits.Add64(w1, w0<<32, 0)
	w2, carry = bits.Add64(w2, w0>>32, carry)
	w3, carry = bits.Add64(w3, low, carry)
	return w1, w2, w3, high + carry
}

// least answers a modulo p.
func least(a api.Num) api.Num { return settle(a[0], a[1], a[2], a[3], 0) }

// settle answers modulo p the number of the words. It is for sums, that hold p a few times only.
func settle(w0, w1, w2, w3, w4 uint64) api.Num {
	for {
		r0, under := bits.Sub64(w0, p0, 0)
		r1, under := bits.Sub64(w1, p1, under)
		r2, under := bits.Sub64(w2, p2, under)
		r3, under := bits.Sub64(w3, p3, under)
		r4, under := bits.Sub64(w4, 0, under)
		if under != 0 {
			return api.Num{w0, w1, w2, w3}
		}
		w0, w1, w2, w3, w4 = r0, r1, r2, r3, r4
	}
}
