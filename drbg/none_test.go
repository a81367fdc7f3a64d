package drbg_test

import (
	"testing"

	"sandglass/api"
	"sandglass/drbg"
)

// 29.1, R1: of a generator that is none Bytes tells ErrArg, whatever it is asked; the others do and tell nothing.
func TestNoGenerator(t *testing.T) {
	var d *drbg.Drbg
	for range 2 {
		for _, s := range []string{"", "\x00", "seed", texts(500)[3]} {
			d.Reseed(s)
		}
		for _, n := range append([]int{0, 1, 7, 8, 9, 31, 32, 33, 4095, 4096}, wrongLengths()...) {
			checkBytes(t, d, n, "", api.ErrArg)
			checkPoly(t, d, n, nil)
		}
		checkScalar(t, d, api.Num{})
		checkAsked(t, d, 0)
	}
}
