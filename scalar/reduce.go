package scalar

import (
	"math/bits"

	"sandglass/api"
	"sandglass/limbs"
)

// The words of 2^256 - q, the lowest first: what 2^256 is modulo q. Word 2 is 0.
const (
	c0 = 0x0c46353d039cdaaf
	c1 = 0x4319055258e8617b
	c3 = 0x00000000ffffffff
)

// modulo answers high * 2^256 + low modulo q. From the highest place down it clears what of the rest stands four words above the place or higher, and adds at the place what that is modulo q; each time less stands above, as 2^256 - q is less than 2^224, till it is nothing.
func modulo(low, high api.Num) api.Num {
	var rest [8]uint64
	copy(rest[:], low[:])
	copy(rest[4:], high[:])
	for place := 3; place >= 0; place-- {
		for rest[place+4] != 0 {
			over := rest[place+4]
			clear(rest[place+4:])
			fold(rest[place:], over)
		}
	}
	return least(api.Num{rest[0], rest[1], rest[2], rest[3]})
}

// fold adds over * (2^256 - q) to the rest. Five words hold the sum, as the fifth one is clear.
func fold(rest []uint64, over uint64) {
	up0, w0 := bits.Mul64(over, c0)
	up1, w1 := bits.Mul64(over, c1)
	w4, w3 := bits.Mul64(over, c3)
	w1, carry := bits.Add64(w1, up0, 0)
	w2 := up1 + carry
	rest[0], carry = bits.Add64(rest[0], w0, 0)
	rest[1], carry = bits.Add64(rest[1], w1, carry)
	rest[2], carry = bits.Add64(rest[2], w2, carry)
	rest[3], carry = bits.Add64(rest[3], w3, carry)
	rest[4] += w4 + carry
}

// least answers a modulo q. Two times q is more than 2^256, so it is taken away once at most.
func least(a api.Num) api.Num {
	if rest, less := limbs.Sub(a, order); !less {
		return rest
	}
	return a
}
