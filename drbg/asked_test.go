package drbg_test

import (
	"testing"

	"sandglass/drbg"
)

// 29.2: how many bytes were told, behind each call.
func TestAsked(t *testing.T) {
	d := drbg.New("a seed")
	for _, step := range []struct {
		do   func()
		want int
	}{
		{func() {}, 0},
		{func() { d.Reseed("") }, 0},
		{func() { d.Reseed("more") }, 0},
		{func() { d.Bytes(0) }, 0},
		{func() { d.Bytes(-1) }, 0},
		{func() { d.Bytes(4097) }, 0},
		{func() { d.Bytes(1) }, 1},
		{func() { d.Bytes(33) }, 34},
		{func() { d.Bytes(-1) }, 34},
		{func() { d.Reseed("more") }, 34},
		{func() { d.Bytes(0) }, 34},
		{func() { d.Scalar() }, 66},
		{func() { d.Poly(0) }, 66},
		{func() { d.Poly(-1) }, 66},
		{func() { d.Poly(1) }, 98},
		{func() { d.Poly(7) }, 322},
		{func() { d.Poly(8) }, 578},
		{func() { d.Poly(9) }, 834},
		{func() { d.Bytes(4096) }, 4930},
		{func() { d.Bytes(4097) }, 4930},
		{func() { d.Reseed("") }, 4930},
		{func() { d.Asked() }, 4930},
	} {
		step.do()
		checkAsked(t, d, step.want)
		checkAsked(t, d, step.want)
	}
	for _, n := range wrongLengths() {
		d.Bytes(n)
		checkAsked(t, d, 4930)
	}
	checkAsked(t, drbg.New("a seed"), 0)
}

// 29.2: there is no end to it: what was told is not taken back, and goes beyond the most that are told at once.
func TestAskedOften(t *testing.T) {
	t.Parallel()
	d := drbg.New("seed")
	for i := range 20 {
		d.Bytes(most)
		checkAsked(t, d, (i+1)*most)
	}
}

// 29.2, R5: to ask it does nothing.
func TestAskedDoesNothing(t *testing.T) {
	one, two := drbg.New("seed"), drbg.New("seed")
	for range 10 {
		one.Asked()
	}
	same(t, two, one)
}
