package comb_test

import (
	"math/big"
	"math/rand"
	"testing"

	"sandglass/api"
	"sandglass/comb"
	"sandglass/mult"
	"sandglass/point"
)

// 30.1: of each point by each number.
func TestMul(t *testing.T) {
	t.Parallel()
	for _, p := range points() {
		table := comb.New(p)
		for _, k := range factors() {
			checkPoint(t, "Mul", table.Mul(k), multiple(k, p), k, p)
		}
	}
}

// 30.1: chapter 5's multiple.
func TestMulIsMult(t *testing.T) {
	t.Parallel()
	of := []api.Point{base, points()[7], points()[9]}
	for i, k := range factors() {
		p := of[i%len(of)]
		checkPoint(t, "Mul", comb.New(p).Mul(k), mult.Mul(k, p), k, p)
	}
}

// 30.1: what numbers at the order's ends tell.
func TestMulByFew(t *testing.T) {
	t.Parallel()
	for _, p := range points() {
		table := comb.New(p)
		checkPoint(t, "Mul", table.Mul(api.Num{}), none, 0, p)
		checkPoint(t, "Mul", table.Mul(api.Num{1}), p, 1, p)
		checkPoint(t, "Mul", table.Mul(api.Num{2}), point.Double(p), 2, p)
		checkPoint(t, "Mul", table.Mul(api.Num{3}), point.Add(point.Double(p), p), 3, p)
		checkPoint(t, "Mul", table.Mul(beside(q, -1)), point.Neg(p), "q - 1", p)
		checkPoint(t, "Mul", table.Mul(q), none, "q", p)
		checkPoint(t, "Mul", table.Mul(beside(q, 1)), p, "q + 1", p)
		checkPoint(t, "Mul", table.Mul(beside(q, 2)), point.Double(p), "q + 2", p)
		checkPoint(t, "Mul", table.Mul(most), multiple(modulo(new(big.Int).Sub(toBig(most), order)), p), "2^256 - 1", p)
	}
}

// 30.1: each bit counts 2 to the power of its place.
func TestMulByPowers(t *testing.T) {
	t.Parallel()
	table, twice := comb.New(base), base
	for i := range 256 {
		checkPoint(t, "Mul", table.Mul(power(i, 0)), twice, "2^", i)
		twice = point.Double(twice)
	}
}

// 30.1: the bits of all words that stand at one place, in all ways.
func TestMulByColumns(t *testing.T) {
	t.Parallel()
	p := ofBase(7)
	table := comb.New(p)
	for bits := range 16 {
		for _, place := range []int{0, 1, 31, 32, 62, 63} {
			var k api.Num
			for word := range k {
				k[word] = uint64(bits) >> word & 1 << place
			}
			checkPoint(t, "Mul", table.Mul(k), multiple(k, p), k)
		}
	}
}

// 30.1: numbers without a pattern.
func TestMulByRandom(t *testing.T) {
	t.Parallel()
	one, other := comb.New(base), comb.New(points()[8])
	for _, k := range randoms(60, 303) {
		checkPoint(t, "Mul", one.Mul(k), multiple(k, base), k)
		checkPoint(t, "Mul", other.Mul(k), multiple(k, points()[8]), k)
	}
}

// 30.1: of None, and of points that are none of the curve.
func TestMulOfNone(t *testing.T) {
	t.Parallel()
	for _, p := range append(wrong(), none) {
		table := comb.New(p)
		if table == nil {
			t.Fatalf("no table of %v", p)
		}
		for _, k := range factors() {
			checkPoint(t, "Mul", table.Mul(k), none, k, p)
		}
	}
}

// 30.1: no table tells None.
func TestMulOfNoTable(t *testing.T) {
	var table *comb.Table
	for _, k := range factors() {
		checkPoint(t, "Mul", table.Mul(k), none, k)
	}
}

// 30.1, R5: the same table asked often and in any order, two tables side by side.
func TestMulOften(t *testing.T) {
	t.Parallel()
	r := rand.New(rand.NewSource(304))
	p := []api.Point{base, base, ofBase(-5), none, points()[7]}
	var tables []*comb.Table
	for _, x := range p {
		tables = append(tables, comb.New(x))
	}
	l := factors()
	for range 300 {
		i, k := r.Intn(len(p)), l[r.Intn(len(l))]
		checkPoint(t, "Mul", tables[i].Mul(k), multiple(k, p[i]), k, p[i])
	}
}

// 30.1: by numbers that sum to another one the multiples sum to its.
func TestMulOfSums(t *testing.T) {
	t.Parallel()
	table := comb.New(ofBase(3))
	l := randoms(12, 305)
	for i := 0; i < len(l); i += 2 {
		sum := modulo(new(big.Int).Add(toBig(l[i]), toBig(l[i+1])))
		checkPoint(t, "Mul", point.Add(table.Mul(l[i]), table.Mul(l[i+1])), table.Mul(sum), l[i], l[i+1])
	}
}
