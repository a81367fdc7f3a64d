package comb_test

import (
	"crypto/elliptic"
	"crypto/sha256"
	"encoding/hex"
	"math"
	"math/big"
	"strconv"
	"strings"
	"testing"

	"sandglass/api"
	"sandglass/point"
)

const top = math.MaxUint64

var (
	none  = api.Point{None: true}
	curve = elliptic.P256()
	order = curve.Params().N
	base  = api.Point{X: fromBig(curve.Params().Gx), Y: fromBig(curve.Params().Gy)}
	q     = fromBig(order)
	prime = fromBig(curve.Params().P)
	most  = api.Num{top, top, top, top}
	mixed = num("ef4e3f50798387464764d41308391dedf25280c5dd34b87d233017428c278ee2")
)

// fromBig is made of the words alone, so that no layer under the calls judges them.
func fromBig(n *big.Int) api.Num {
	var a api.Num
	word := new(big.Int).SetUint64(top)
	for i := range a {
		a[i] = new(big.Int).And(new(big.Int).Rsh(n, uint(64*i)), word).Uint64()
	}
	return a
}

func toBig(a api.Num) *big.Int {
	n := new(big.Int)
	for i := 3; i >= 0; i-- {
		n.Lsh(n, 64)
		n.Or(n, new(big.Int).SetUint64(a[i]))
	}
	return n
}

func num(digits string) api.Num {
	n, ok := new(big.Int).SetString(digits, 16)
	if !ok || n.BitLen() > 256 {
		panic(digits)
	}
	return fromBig(n)
}

// power is 2^i + d, modulo 2^256; of an i of 256, too.
func power(i, d int) api.Num {
	return fromBig(new(big.Int).Add(new(big.Int).Lsh(big.NewInt(1), uint(i)), big.NewInt(int64(d))))
}

// beside is a + d, modulo 2^256.
func beside(a api.Num, d int) api.Num {
	return fromBig(new(big.Int).Add(toBig(a), big.NewInt(int64(d))))
}

// modulo is n modulo q, from 0 on, of an n that may be less than 0.
func modulo(n *big.Int) api.Num { return fromBig(new(big.Int).Mod(n, order)) }

func fromCurve(x, y *big.Int) api.Point {
	if x.Sign() == 0 && y.Sign() == 0 {
		return none
	}
	return api.Point{X: fromBig(x), Y: fromBig(y)}
}

// isPoint is the document's word for it, by the library's curve.
func isPoint(p api.Point) bool {
	x, y := toBig(p.X), toBig(p.Y)
	limit := curve.Params().P
	return !p.None && x.Cmp(limit) < 0 && y.Cmp(limit) < 0 && curve.IsOnCurve(x, y)
}

// multiple is k times p, of the library's curve; of a point that is none of it None.
func multiple(k api.Num, p api.Point) api.Point {
	if !isPoint(p) {
		return none
	}
	return fromCurve(curve.ScalarMult(toBig(p.X), toBig(p.Y), toBig(modulo(toBig(k))).Bytes()))
}

// ofBase is n times the base, of the library's curve; n may be less than 0.
func ofBase(n int64) api.Point { return multiple(modulo(big.NewInt(n)), base) }

// total is the sum of multiples, of the library's curve, as far as both lists go.
func total(k []api.Num, p []api.Point) api.Point {
	x, y := new(big.Int), new(big.Int)
	for i := 0; i < len(k) && i < len(p); i++ {
		m := multiple(k[i], p[i])
		x, y = curve.Add(x, y, toBig(m.X), toBig(m.Y))
	}
	return fromCurve(x, y)
}

// plainNaf is the document's words, one by one, over big numbers.
func plainNaf(k api.Num, w int) ([]int, api.Errno) {
	if w < 2 || w > 7 {
		return nil, api.ErrArg
	}
	var l []int
	n, all := toBig(k), big.NewInt(int64(1)<<w)
	for n.Sign() != 0 {
		digit := int64(0)
		if n.Bit(0) == 1 {
			digit = new(big.Int).Mod(n, all).Int64()
			if digit >= all.Int64()/2 {
				digit -= all.Int64()
			}
			n.Sub(n, big.NewInt(digit))
		}
		l = append(l, int(digit))
		n.Rsh(n, 1)
	}
	return l, api.OK
}

// plainValue is the document's words, one by one, over big numbers.
func plainValue(d []int) api.Num {
	sum := new(big.Int)
	for i, digit := range d {
		if i < 256 {
			sum.Add(sum, new(big.Int).Lsh(big.NewInt(int64(digit)), uint(i)))
		}
	}
	return fromBig(sum.Mod(sum, new(big.Int).Lsh(big.NewInt(1), 256)))
}

// randoms are n numbers of 256 bits without a pattern.
func randoms(n int, seed uint64) []api.Num {
	l := make([]api.Num, n)
	for i := range l {
		for j := range l[i] {
			seed = seed*6364136223846793005 + 1442695040888963407
			l[i][j] = seed ^ seed>>29
		}
	}
	return l
}

// factors are small numbers, those at the ends of words, of q, of the prime and of 2^256, and some without a pattern.
func factors() []api.Num {
	l := []api.Num{
		{}, {1}, {2}, {3}, {4}, {5}, {7}, {8}, {15}, {16}, {17}, {31}, {33}, {255},
		{top}, {0, 1}, {1, 1}, {top, top}, {0, 0, 1}, {top, top, top}, {0, 0, 0, 1}, {1, 1, 1, 1},
		{1 << 63, 1 << 63, 1 << 63, 1 << 63}, {0, 0, 0, 1 << 63}, {0, top, top, top}, {0, 0, 0, top}, most, beside(most, -1),
	}
	for d := -2; d <= 2; d++ {
		l = append(l, beside(q, d), beside(prime, d), beside(fromBig(new(big.Int).Rsh(order, 1)), d))
	}
	return append(l, randoms(4, 30)...)
}

// points are None, the base and other multiples of it, and points with a small X or Y.
func points() []api.Point {
	return []api.Point{
		none, base, ofBase(2), ofBase(3), ofBase(-1), ofBase(-2), ofBase(1 << 40),
		{Y: num("66485c780e2f83d72433bd5d84a06bb6541c2af31dae871728bf856a174f93f4")},
		{X: num("8d0177ebab9c6e9e10db6dd095dbac0d6375e8a97b70f611875d877f0069d2c7"), Y: api.Num{1}},
		multiple(mixed, base),
	}
}

// wrong are points that count as None, without being it.
func wrong() []api.Point {
	x, y := base, base
	x.X[3]++
	y.Y[0]--
	return []api.Point{
		{}, {X: api.Num{1}}, {Y: api.Num{1}}, {X: base.Y, Y: base.X}, x, y,
		{X: prime, Y: prime}, {X: most, Y: most}, {X: prime, Y: points()[7].Y},
		{X: points()[8].X, Y: beside(prime, 1)},
		{X: base.X, Y: base.Y, None: true}, {X: api.Num{1}, None: true}, {Y: most, None: true},
	}
}

// farInts are ints at and near their edges, and such whose lowest bits are those of small ones.
func farInts() []int {
	var l []int
	for _, k := range []int{math.MaxInt, math.MaxInt / 2, math.MinInt, math.MinInt / 2} {
		for d := -3; d <= 7; d++ {
			l = append(l, k+d)
		}
	}
	for bit := 3; bit < 64; bit++ {
		k := 1 << bit
		l = append(l, k, k+2, k+5, k+7, -k, 2-k, 5-k, 7-k)
	}
	return l
}

// digest is the library's sum of the digits, in hexadecimal ones.
func digest(d []int) string {
	var l []string
	for _, digit := range d {
		l = append(l, strconv.Itoa(digit))
	}
	sum := sha256.Sum256([]byte(strings.Join(l, ",")))
	return hex.EncodeToString(sum[:])
}

// The plain ones tell what another program tells.
func TestPlain(t *testing.T) {
	for _, x := range knownDigits() {
		if d, err := plainNaf(x.k, x.w); digest(d) != x.digest || len(d) != x.long || err != api.OK {
			t.Errorf("%x, %d: %v, %d", x.k, x.w, d, err)
		}
	}
	for _, x := range knownValues() {
		if got := plainValue(x.d); got != x.want {
			t.Errorf("%v: %x; want %x", x.d, got, x.want)
		}
	}
	for _, x := range knownMultiples() {
		if got := multiple(x.k, base); got != x.want {
			t.Errorf("%x: %v; want %v", x.k, got, x.want)
		}
	}
	k, p, want := knownSum()
	if got := total(k, p); got != want {
		t.Errorf("%v", got)
	}
}

// The points that the tests ask of are what they are said to be.
func TestPoints(t *testing.T) {
	for _, p := range points() {
		if !point.On(p) || isPoint(p) == p.None {
			t.Errorf("%v is no point", p)
		}
	}
	for _, p := range wrong() {
		if point.On(p) || isPoint(p) {
			t.Errorf("%v is a point", p)
		}
	}
}
