package comb_test

import (
	"slices"
	"testing"

	"sandglass/api"
	"sandglass/comb"
	"sandglass/mult"
)

// batch holds each answer against the library's, in its place.
func batch(t *testing.T, k []api.Num) {
	t.Helper()
	l := comb.Batch(k)
	if len(l) != len(k) {
		t.Fatalf("Batch of %d numbers: %d points", len(k), len(l))
	}
	for i := range k {
		checkPoint(t, "Batch", l[i], multiple(k[i], base), i, k[i])
	}
}

// 30.1: of no numbers no points.
func TestBatchOfNothing(t *testing.T) {
	for _, k := range [][]api.Num{nil, {}, randoms(3, 311)[:0]} {
		if l := comb.Batch(k); len(l) != 0 {
			t.Errorf("%v", l)
		}
	}
}

// 30.1: of one number.
func TestBatchOfOne(t *testing.T) {
	t.Parallel()
	for _, k := range factors() {
		batch(t, []api.Num{k})
	}
	if l := comb.Batch([]api.Num{{1}}); len(l) != 1 || l[0] != base {
		t.Errorf("1: %v", l)
	}
}

// 30.1: of many numbers, 0, q and 2^256 - 1 and such that are there twice among them.
func TestBatchOfMany(t *testing.T) {
	t.Parallel()
	l := factors()
	batch(t, l)
	slices.Reverse(l)
	batch(t, l)
	batch(t, randoms(100, 312))
	batch(t, []api.Num{{}, q, most, {}, q, most, {3}, {3}, {3}, beside(q, 3)})
	for long := range 9 {
		batch(t, randoms(long, 313))
		batch(t, slices.Repeat([]api.Num{mixed}, long))
	}
}

// 30.1: each is chapter 5's multiple of the base.
func TestBatchIsMult(t *testing.T) {
	t.Parallel()
	k := append(randoms(8, 314), api.Num{}, q, most, api.Num{1})
	for i, got := range comb.Batch(k) {
		checkPoint(t, "Batch", got, mult.Base(k[i]), i, k[i])
	}
}
