package comb

import (
	"slices"

	"sandglass/api"
	"sandglass/limbs"
)

// The widths that digits may have.
const (
	leastWidth = 2
	mostWidth  = 7
)

// size is the number of bits of a number.
const size = 256

// Naf answers the digits of k, the lowest first, of width w; ErrArg, unless w is 2 to 7.
func Naf(k api.Num, w int) ([]int, api.Errno) {
	if w < leastWidth || w > mostWidth {
		return nil, api.ErrArg
	}
	var digits []int
	for k != (api.Num{}) {
		digit := lowest(k, w)
		digits = append(digits, digit)
		k = behind(k, digit)
	}
	return digits, api.OK
}

// lowest answers the lowest digit of k.
func lowest(k api.Num, w int) int {
	if k[0]&1 == 0 {
		return 0
	}
	digit := int(k[0] & (1<<w - 1))
	if digit >= 1<<(w-1) {
		digit -= 1 << w
	}
	return digit
}

// behind answers the number of the digits behind the lowest one, which is handed in.
func behind(k api.Num, digit int) api.Num {
	if digit < 0 {
		more, over := limbs.Add(k, api.Num{uint64(-digit)})
		return halved(more, over)
	}
	less, _ := limbs.Sub(k, api.Num{uint64(digit)})
	return halved(less, false)
}

// halved answers the half of k, and of the bit beyond its highest one.
func halved(k api.Num, over bool) api.Num {
	var half api.Num
	for i := range len(k) - 1 {
		half[i] = k[i]>>1 | k[i+1]<<63
	}
	half[len(k)-1] = k[len(k)-1] >> 1
	if over {
		half[len(k)-1] |= 1 << 63
	}
	return half
}

// Value answers the sum of each digit times 2 to the power of its place, modulo 2^256.
func Value(d []int) api.Num {
	var sum api.Num
	for _, digit := range slices.Backward(d[:min(len(d), size)]) {
		sum, _ = limbs.Add(sum, sum)
		sum, _ = limbs.Add(sum, wrapped(digit))
	}
	return sum
}

// wrapped answers the digit modulo 2^256: one below 0 has 1s in all higher words.
func wrapped(digit int) api.Num {
	high := uint64(int64(digit) >> 63)
	return api.Num{uint64(digit), high, high, high}
}
