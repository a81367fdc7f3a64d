package poly

import (
	"math/big"
	"testing"
)

// value is a number's, whether its limbs are carried or not.
func value(n number) *big.Int {
	v := new(big.Int)
	for i := len(n) - 1; i >= 0; i-- {
		v.Lsh(v, limbBits).Add(v, new(big.Int).SetUint64(n[i]))
	}
	return v
}

// prime is 2^130 - 5.
func prime() *big.Int {
	return new(big.Int).Sub(new(big.Int).Lsh(big.NewInt(1), 130), big.NewInt(5))
}

// greatest has all limbs as great as they ever are ahead of a product: a product's and a block's, not carried.
func greatest() number {
	n := number{2*limbMask + wrap}
	for i := 1; i < len(n); i++ {
		n[i] = 2 * limbMask
	}
	return n
}

// kinds are limbs at their edges, each with each.
func kinds() []number {
	edges := []uint64{0, 1, limbMask - 1, limbMask, limbMask + 1, 2 * limbMask}
	l := []number{greatest()}
	for i := range 6 * 6 * 6 * 6 * 6 {
		var n number
		for k := range n {
			n[k], i = edges[i%6], i/6
		}
		l = append(l, n)
	}
	return l
}

// 10.1: a product is right modulo the prime with limbs as great as they ever are, and its own limbs are small enough for the next one.
func TestTimes(t *testing.T) {
	most := new(big.Int).Add(prime(), big.NewInt(2*wrap))
	for _, a := range kinds() {
		for _, b := range []number{{}, {1}, {0, 0, 0, 0, 1}, {limbMask, limbMask, limbMask, limbMask, limbMask}, {0x3ffffff, 0x3ffff03, 0x3ffc0ff, 0x3f03fff, 0x00fffff}} {
			n := times(a, b)
			want := new(big.Int).Mul(value(a), value(b))
			want.Sub(want, value(n))
			if want.Mod(want, prime()).Sign() != 0 {
				t.Fatalf("%x times %x: %x", a, b, n)
			}
			for i := range n {
				if i > 0 && n[i] > limbMask || n[i] > limbMask+wrap {
					t.Fatalf("%x times %x: limb %d is %x", a, b, i, n[i])
				}
			}
			if value(n).Cmp(most) >= 0 {
				t.Fatalf("%x times %x is as much as %x", a, b, value(n))
			}
		}
	}
}

// 10.1: what is left modulo the prime of numbers below it, of itself and of such above it, whether they are carried or not.
func TestRest(t *testing.T) {
	check := func(n number) {
		t.Helper()
		if got := rest(n); value(got).Cmp(new(big.Int).Mod(value(n), prime())) != 0 {
			t.Errorf("%x: %x", n, got)
		}
	}
	for low := uint64(limbMask - 20); low <= limbMask+wrap; low++ {
		check(number{low, limbMask, limbMask, limbMask, limbMask})
		check(number{low, limbMask, limbMask, limbMask, limbMask - 1})
		check(number{low, limbMask - 1, limbMask, limbMask, limbMask})
		check(number{low})
	}
	for low := range uint64(20) {
		check(number{low})
		check(number{low, 0, 0, 0, limbMask})
	}
}
