package comb_test

import (
	"math/big"
	"slices"
	"testing"

	"sandglass/api"
	"sandglass/comb"
	"sandglass/mult"
	"sandglass/point"
)

func sum(t *testing.T, k []api.Num, p []api.Point) {
	t.Helper()
	checkPoint(t, "Sum", comb.Sum(k, p), total(k, p), k, p)
}

// 30.1: of nothing it is None.
func TestSumOfNothing(t *testing.T) {
	k, p := randoms(3, 306), points()[1:4]
	for _, empty := range [][]api.Num{nil, {}, k[:0]} {
		checkPoint(t, "Sum", comb.Sum(empty, nil), none)
		checkPoint(t, "Sum", comb.Sum(empty, []api.Point{}), none)
		checkPoint(t, "Sum", comb.Sum(empty, p), none)
	}
	for _, empty := range [][]api.Point{nil, {}, p[:0]} {
		checkPoint(t, "Sum", comb.Sum(k, empty), none)
	}
}

// 30.1: of one number and one point.
func TestSumOfOne(t *testing.T) {
	t.Parallel()
	for i, k := range factors() {
		p := points()
		sum(t, []api.Num{k}, p[i%len(p):][:1])
		sum(t, []api.Num{k}, p[1:2])
	}
	for _, p := range points() {
		for i := range 40 {
			sum(t, []api.Num{{uint64(i)}}, []api.Point{p})
		}
	}
}

// 30.1: each place of each digit.
func TestSumOfPowers(t *testing.T) {
	t.Parallel()
	p := ofBase(9)
	for i := 0; i < 256; i += 2 {
		sum(t, []api.Num{power(i, 0), power(255-i, 0)}, []api.Point{base, p})
		if i%8 == 0 {
			sum(t, []api.Num{power(i, -1), {}, power(255-i, 1)}, []api.Point{base, p, p})
		}
	}
}

// 30.1: chapter 5's.
func TestSumIsMult(t *testing.T) {
	t.Parallel()
	k, p := randoms(10, 307), points()
	for long := range len(p) + 1 {
		checkPoint(t, "Sum", comb.Sum(k[:long], p[:long]), mult.Sum(k[:long], p[:long]), long)
	}
	l, of := factors(), []api.Point{}
	for i := range l {
		of = append(of, p[i%len(p)])
	}
	checkPoint(t, "Sum", comb.Sum(l, of), mult.Sum(l, of))
}

// 30.1: many of them, small ones and great ones.
func TestSumOfMany(t *testing.T) {
	t.Parallel()
	for _, long := range []int{2, 3, 5, 16, 17, 40} {
		k, p := randoms(long, uint64(long)), []api.Point{}
		for i := range long {
			p = append(p, points()[i%len(points())])
		}
		sum(t, k, p)
		for i := range k {
			k[i] = api.Num{uint64(i)}
		}
		sum(t, k, p)
		for i := range k {
			k[i] = factors()[i%len(factors())]
		}
		sum(t, k, p)
	}
	const n = 1000
	k, p := make([]api.Num, n), make([]api.Point, n)
	for i := range n {
		k[i], p[i] = api.Num{uint64(i)}, base
	}
	checkPoint(t, "Sum", comb.Sum(k, p), ofBase(n*(n-1)/2))
}

// 30.1: as far as both lists go.
func TestSumOfUnequalLists(t *testing.T) {
	t.Parallel()
	p := points()[1:]
	k := randoms(len(p), 308)
	for long := range len(p) {
		want := total(k[:long], p[:long])
		checkPoint(t, "Sum", comb.Sum(k[:long], p), want, long, "numbers")
		checkPoint(t, "Sum", comb.Sum(k, p[:long]), want, long, "points")
		checkPoint(t, "Sum", comb.Sum(k[:long:long], slices.Clone(p)), want, long, "numbers")
		checkPoint(t, "Sum", comb.Sum(slices.Clone(k), p[:long:long]), want, long, "points")
	}
}

// 30.1: numbers 0 and q count nothing.
func TestSumOfNoughts(t *testing.T) {
	t.Parallel()
	p := points()[1:5]
	sum(t, []api.Num{{}, {}, {}, {}}, p)
	sum(t, []api.Num{q, q, q, q}, p)
	sum(t, []api.Num{{}, mixed, {}, {}}, p)
	sum(t, []api.Num{q, {}, most, q}, p)
	checkPoint(t, "Sum", comb.Sum([]api.Num{{}, q, {4}, {}}, []api.Point{base, ofBase(2), base, base}), ofBase(4))
}

// 30.1: points that cancel each other.
func TestSumOfOpposites(t *testing.T) {
	t.Parallel()
	for i, k := range factors() {
		p := points()[i%len(points())]
		minus := modulo(new(big.Int).Neg(toBig(k)))
		checkPoint(t, "Sum", comb.Sum([]api.Num{k, k}, []api.Point{p, point.Neg(p)}), none, k, p)
		checkPoint(t, "Sum", comb.Sum([]api.Num{k, minus}, []api.Point{p, p}), none, k, p)
		checkPoint(t, "Sum", comb.Sum([]api.Num{k, {5}, minus}, []api.Point{p, base, p}), ofBase(5), k, p)
	}
	checkPoint(t, "Sum", comb.Sum([]api.Num{{6}, {1}}, []api.Point{base, ofBase(-6)}), none)
	checkPoint(t, "Sum", comb.Sum([]api.Num{{2}, {3}}, []api.Point{ofBase(3), ofBase(-2)}), none)
	checkPoint(t, "Sum", comb.Sum([]api.Num{{1}, {2}, {3}}, []api.Point{base, base, ofBase(-1)}), none)
}

// 30.1: points that are alike.
func TestSumOfAlike(t *testing.T) {
	t.Parallel()
	for _, p := range points() {
		three := []api.Point{p, p, p}
		sum(t, []api.Num{{1}, {1}, {1}}, three)
		sum(t, []api.Num{{7}, {7}, {7}}, three)
		sum(t, []api.Num{{2}, {1}, {3}}, three)
		sum(t, []api.Num{mixed, mixed, most}, three)
	}
	checkPoint(t, "Sum", comb.Sum([]api.Num{{2}, {1}}, []api.Point{base, ofBase(2)}), ofBase(4))
}

// 30.1: None, and points that are none of the curve, count nothing, wherever they stand.
func TestSumWithNone(t *testing.T) {
	t.Parallel()
	real := points()[1:3]
	k := randoms(3, 309)
	first, between, last := total(k[1:], real), total([]api.Num{k[0], k[2]}, real), total(k[:2], real)
	for _, p := range append(wrong(), none) {
		checkPoint(t, "Sum", comb.Sum(k, []api.Point{p, real[0], real[1]}), first, p, "first")
		checkPoint(t, "Sum", comb.Sum(k, []api.Point{real[0], p, real[1]}), between, p, "between")
		checkPoint(t, "Sum", comb.Sum(k, []api.Point{real[0], real[1], p}), last, p, "last")
	}
	l := wrong()
	checkPoint(t, "Sum", comb.Sum(randoms(len(l), 310), l), none)
	checkPoint(t, "Sum", comb.Sum(k, []api.Point{none, none, none}), none)
}
