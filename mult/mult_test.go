package mult_test

import (
	"crypto/elliptic"
	"math"
	"math/big"
	"slices"
	"testing"

	"sandglass/api"
	"sandglass/mult"
	"sandglass/point"
)

const top = math.MaxUint64

var (
	none  = api.Point{None: true}
	curve = elliptic.P256()
	order = curve.Params().N
	base  = api.Point{X: fromBig(curve.Params().Gx), Y: fromBig(curve.Params().Gy)}
	q     = fromBig(order)
	most  = api.Num{top, top, top, top}
)

// fromBig is made of the words alone, so that no layer under the calls judges them.
func fromBig(n *big.Int) api.Num {
	var a api.Num
	word := new(big.Int).SetUint64(top)
	for i := range a {
		a[i] = new(big.Int).And(new(big.Int).Rsh(n, uint(64*i)), word).Uint64()
	}
	return a
}

func toBig(a api.Num) *big.Int {
	n := new(big.Int)
	for i := 3; i >= 0; i-- {
		n.Lsh(n, 64)
		n.Or(n, new(big.Int).SetUint64(a[i]))
	}
	return n
}

func num(hex string) api.Num {
	n, ok := new(big.Int).SetString(hex, 16)
	if !ok {
		panic(hex)
	}
	return fromBig(n)
}

// modulo is n modulo q, from 0 on, of an n that may be less than 0.
func modulo(n *big.Int) api.Num { return fromBig(new(big.Int).Mod(n, order)) }

// fromOrder is q + i.
func fromOrder(i int64) api.Num { return fromBig(new(big.Int).Add(order, big.NewInt(i))) }

func fromCurve(x, y *big.Int) api.Point {
	if x.Sign() == 0 && y.Sign() == 0 {
		return none
	}
	return api.Point{X: fromBig(x), Y: fromBig(y)}
}

// multiple is k times p, of the library's curve; p is None, or a point of the curve.
func multiple(k api.Num, p api.Point) api.Point {
	if p == none {
		return none
	}
	return fromCurve(curve.ScalarMult(toBig(p.X), toBig(p.Y), toBig(modulo(toBig(k))).Bytes()))
}

// ofBase is n times the base, of the library's curve; n may be less than 0.
func ofBase(n int64) api.Point { return multiple(modulo(big.NewInt(n)), base) }

// total is the sum of multiples, of the library's curve; the lists are as long as each other.
func total(k []api.Num, p []api.Point) api.Point {
	x, y := new(big.Int), new(big.Int)
	for i := range k {
		m := multiple(k[i], p[i])
		x, y = curve.Add(x, y, toBig(m.X), toBig(m.Y))
	}
	return fromCurve(x, y)
}

// randoms are n numbers of 256 bits without a pattern.
func randoms(n int, seed uint64) []api.Num {
	l := make([]api.Num, n)
	for i := range l {
		for j := range l[i] {
			seed = seed*6364136223846793005 + 1442695040888963407
			l[i][j] = seed ^ seed>>29
		}
	}
	return l
}

// power is 2^i.
func power(i int) api.Num {
	var a api.Num
	a[i/64] = 1 << (i % 64)
	return a
}

// factors are small numbers, those at the ends of words, of q and of its half, and some without a pattern.
func factors() []api.Num {
	l := []api.Num{
		{}, {1}, {2}, {3}, {4}, {5}, {7}, {8}, {15}, {16}, {17}, {0xff},
		{top}, {0, 1}, {1, 1}, {top, top}, {0, 0, 1}, {top, top, top}, {0, 0, 0, 1},
		{0x5555555555555555, 0x5555555555555555, 0x5555555555555555, 0x5555555555555555},
		{0xaaaaaaaaaaaaaaaa, 0xaaaaaaaaaaaaaaaa, 0xaaaaaaaaaaaaaaaa, 0xaaaaaaaaaaaaaaaa},
		most, {top - 1, top, top, top}, {0, top, top, top}, {0, 0, 0, top},
	}
	half := new(big.Int).Rsh(order, 1)
	for i := int64(-3); i <= 3; i++ {
		l = append(l, fromOrder(i), fromBig(new(big.Int).Add(half, big.NewInt(i))))
	}
	return append(l, randoms(6, 5)...)
}

// greater are numbers from q to 2^256 - 1.
func greater() []api.Num {
	l := []api.Num{most, {top - 1, top, top, top}, {0, top, top, top}, {0, 0, 0, top}, {0, 0, 1, 0xffffffff00000001}}
	for _, i := range []int64{0, 1, 2, 3, 5, 1 << 40, math.MaxInt64} {
		l = append(l, fromOrder(i))
	}
	for _, a := range randoms(6, 52) {
		a[3] |= 0xffffffff80000000
		l = append(l, a)
	}
	return l
}

// points are None, the base and other multiples of it, and points with a small X or Y.
func points() []api.Point {
	return []api.Point{
		none, base, ofBase(2), ofBase(3), ofBase(-1), ofBase(-2), ofBase(1 << 40),
		{Y: num("66485c780e2f83d72433bd5d84a06bb6541c2af31dae871728bf856a174f93f4")},
		{X: num("8d0177ebab9c6e9e10db6dd095dbac0d6375e8a97b70f611875d877f0069d2c7"), Y: api.Num{1}},
		multiple(num("c9afa9d845ba75166b5c215767b1d6934e50c3db36e89b127b8a622b120f6721"), base),
	}
}

// wrong are points for which On is false.
func wrong() []api.Point {
	p := fromBig(curve.Params().P)
	x, y := base, base
	x.X[3]++
	y.Y[0]--
	return []api.Point{
		{}, {X: api.Num{1}}, {Y: api.Num{1}}, {X: base.Y, Y: base.X}, x, y,
		{X: p, Y: p}, {X: most, Y: most}, {X: p, Y: points()[7].Y},
		{X: base.X, Y: base.Y, None: true}, {X: api.Num{1}, None: true}, {Y: most, None: true},
	}
}

// check holds an answer against the one wanted, and to the form in which points are handed out.
func check(t *testing.T, what string, got, want api.Point, of ...any) {
	t.Helper()
	if got != want {
		t.Errorf("%s of %v: %v, want %v", what, of, got, want)
	}
	if !point.On(got) {
		t.Errorf("%s of %v: %v is not on the curve", what, of, got)
	}
}

func TestExamples(t *testing.T) {
	check(t, "Base", mult.Base(q), none, q)
	check(t, "Base", mult.Base(api.Num{1}), base, 1)
	check(t, "Base", mult.Base(api.Num{}), none, 0)
	// RFC 6979, A.2.5.
	check(t, "Base", mult.Base(num("c9afa9d845ba75166b5c215767b1d6934e50c3db36e89b127b8a622b120f6721")), api.Point{
		X: num("60fed4ba255a9d31c961eb74c6356d68c049b8923b61fa6ce669622e60f29fb6"),
		Y: num("7903fe1008b8bc99a41ae9e95628bc64f2f1b20c2d7e9f5177a3c294d4462299"),
	})
}

func TestMulByFew(t *testing.T) {
	t.Parallel()
	for _, p := range points() {
		check(t, "Mul", mult.Mul(api.Num{}, p), none, 0, p)
		check(t, "Mul", mult.Mul(api.Num{1}, p), p, 1, p)
		check(t, "Mul", mult.Mul(api.Num{2}, p), point.Double(p), 2, p)
		check(t, "Mul", mult.Mul(api.Num{3}, p), point.Add(point.Double(p), p), 3, p)
		check(t, "Mul", mult.Mul(fromOrder(-1), p), point.Neg(p), "q - 1", p)
		check(t, "Mul", mult.Mul(q, p), none, "q", p)
		check(t, "Mul", mult.Mul(fromOrder(1), p), p, "q + 1", p)
	}
}

func TestMul(t *testing.T) {
	t.Parallel()
	for _, p := range points() {
		for _, k := range factors() {
			check(t, "Mul", mult.Mul(k, p), multiple(k, p), k, p)
		}
	}
}

func TestMulByPowersOfTwo(t *testing.T) {
	t.Parallel()
	for _, p := range []api.Point{base, points()[8]} {
		twice := p
		for i := range 256 {
			check(t, "Mul", mult.Mul(power(i), p), twice, "2^", i, p)
			twice = point.Double(twice)
		}
	}
}

func TestMulOfNone(t *testing.T) {
	t.Parallel()
	for _, k := range factors() {
		check(t, "Mul", mult.Mul(k, none), none, k)
		for _, p := range wrong() {
			if point.On(p) {
				t.Fatalf("%v is on the curve", p)
			}
			check(t, "Mul", mult.Mul(k, p), none, k, p)
		}
	}
}

func TestMulModuloOrder(t *testing.T) {
	t.Parallel()
	for _, k := range greater() {
		if toBig(k).Cmp(order) < 0 {
			t.Fatalf("%v is less than q", k)
		}
		rest := modulo(toBig(k))
		check(t, "Base", mult.Base(k), mult.Base(rest), k)
		check(t, "Base", mult.Base(k), multiple(rest, base), k)
		for _, p := range points()[3:5] {
			check(t, "Mul", mult.Mul(k, p), mult.Mul(rest, p), k, p)
			check(t, "Mul", mult.Mul(k, p), multiple(rest, p), k, p)
		}
		check(t, "Sum", mult.Sum([]api.Num{k, k}, points()[2:4]), mult.Sum([]api.Num{rest, rest}, points()[2:4]), k)
	}
}

func TestBase(t *testing.T) {
	t.Parallel()
	for _, k := range factors() {
		check(t, "Base", mult.Base(k), multiple(k, base), k)
	}
	check(t, "Base", mult.Base(api.Num{2}), point.Double(base), 2)
	check(t, "Base", mult.Base(fromOrder(-1)), point.Neg(base), "q - 1")
	check(t, "Base", mult.Base(fromOrder(1)), base, "q + 1")
	twice := base
	for i := range 256 {
		check(t, "Base", mult.Base(power(i)), twice, "2^", i)
		twice = point.Double(twice)
	}
}

func TestSumOfNothing(t *testing.T) {
	t.Parallel()
	k, p := randoms(3, 7), points()[1:4]
	for _, empty := range [][]api.Num{nil, {}, k[:0]} {
		check(t, "Sum", mult.Sum(empty, nil), none)
		check(t, "Sum", mult.Sum(empty, []api.Point{}), none)
		check(t, "Sum", mult.Sum(empty, p), none)
	}
	for _, empty := range [][]api.Point{nil, {}, p[:0]} {
		check(t, "Sum", mult.Sum(k, empty), none)
	}
}

func TestSumOfOnePlace(t *testing.T) {
	t.Parallel()
	for i, k := range factors() {
		p := points()[i%len(points())]
		check(t, "Sum", mult.Sum([]api.Num{k}, []api.Point{p}), multiple(k, p), k, p)
	}
	for _, p := range wrong() {
		check(t, "Sum", mult.Sum([]api.Num{{3}}, []api.Point{p}), none, p)
	}
}

func TestSumOfMany(t *testing.T) {
	t.Parallel()
	p := points()
	k := randoms(len(p), 8)
	check(t, "Sum", mult.Sum(k, p), total(k, p), k, p)
	slices.Reverse(k)
	check(t, "Sum", mult.Sum(k, p), total(k, p), k, p)
	for i := range k {
		k[i] = api.Num{uint64(i)}
	}
	check(t, "Sum", mult.Sum(k, p), total(k, p), k, p)
	l := factors()
	of := make([]api.Point, len(l))
	for i := range of {
		of[i] = p[i%len(p)]
	}
	check(t, "Sum", mult.Sum(l, of), total(l, of), l, of)
}

// A bit of one place, among places that have none, goes to that place's point.
func TestSumOfSingleBits(t *testing.T) {
	t.Parallel()
	p := points()[1:6]
	for i := 0; i < 256; i += 5 {
		k := make([]api.Num, len(p))
		place := i % 4
		k[place] = power(i)
		k[4] = power(255 - i)
		check(t, "Sum", mult.Sum(k, p), total(k, p), k)
	}
}

// The place that counts is the last one of a long list.
func TestSumOfLongLists(t *testing.T) {
	t.Parallel()
	const n = 1000
	k, p := make([]api.Num, n), make([]api.Point, n)
	for i := range n {
		p[i] = base
	}
	k[n-1] = api.Num{6}
	check(t, "Sum", mult.Sum(k, p), ofBase(6))
	k[0] = api.Num{1}
	check(t, "Sum", mult.Sum(k, p), ofBase(7))
	for i := range k {
		k[i] = api.Num{uint64(i)}
	}
	check(t, "Sum", mult.Sum(k, p), ofBase(n*(n-1)/2))
}

func TestSumOfUnequalLists(t *testing.T) {
	t.Parallel()
	p := points()[1:]
	k := randoms(len(p), 9)
	for long := range len(p) {
		want := total(k[:long], p[:long])
		check(t, "Sum", mult.Sum(k[:long], p), want, long, "numbers")
		check(t, "Sum", mult.Sum(k, p[:long]), want, long, "points")
		check(t, "Sum", mult.Sum(k[:long:long], slices.Clone(p)), want, long, "numbers")
		check(t, "Sum", mult.Sum(slices.Clone(k), p[:long:long]), want, long, "points")
	}
}

func TestSumOfOpposites(t *testing.T) {
	t.Parallel()
	for i, k := range factors() {
		p := points()[i%len(points())]
		minus := modulo(new(big.Int).Neg(toBig(k)))
		check(t, "Sum", mult.Sum([]api.Num{k, k}, []api.Point{p, point.Neg(p)}), none, k, p)
		check(t, "Sum", mult.Sum([]api.Num{k, minus}, []api.Point{p, p}), none, k, p)
		check(t, "Sum", mult.Sum([]api.Num{k, {5}, minus}, []api.Point{p, base, p}), ofBase(5), k, p)
	}
	check(t, "Sum", mult.Sum([]api.Num{{6}, {1}}, []api.Point{base, ofBase(-6)}), none)
	check(t, "Sum", mult.Sum([]api.Num{{2}, {3}}, []api.Point{ofBase(3), ofBase(-2)}), none)
	check(t, "Sum", mult.Sum([]api.Num{{1}, {2}, {3}}, []api.Point{base, base, ofBase(-1)}), none)
	check(t, "Sum", mult.Sum([]api.Num{q, q, {4}}, []api.Point{base, ofBase(2), base}), ofBase(4))
}

func TestSumOfEqualPlaces(t *testing.T) {
	t.Parallel()
	check(t, "Sum", mult.Sum([]api.Num{{1}, {1}}, []api.Point{base, base}), ofBase(2))
	check(t, "Sum", mult.Sum([]api.Num{{7}, {7}, {7}}, []api.Point{base, base, base}), ofBase(21))
	check(t, "Sum", mult.Sum([]api.Num{{2}, {1}}, []api.Point{base, ofBase(2)}), ofBase(4))
}

func TestSumWithNone(t *testing.T) {
	t.Parallel()
	real := points()[1:3]
	k := randoms(3, 10)
	for _, p := range append(wrong(), none) {
		check(t, "Sum", mult.Sum(k, []api.Point{p, real[0], real[1]}), total(k[1:], real), p, "first")
		check(t, "Sum", mult.Sum(k, []api.Point{real[0], p, real[1]}), total([]api.Num{k[0], k[2]}, real), p, "between")
		check(t, "Sum", mult.Sum(k, []api.Point{real[0], real[1], p}), total(k[:2], real), p, "last")
	}
	l := wrong()
	check(t, "Sum", mult.Sum(randoms(len(l), 11), l), none)
	check(t, "Sum", mult.Sum(k, []api.Point{none, none, none}), none)
}

// What is handed in stays as it is, also behind the lists' ends.
func TestSumChangesNothing(t *testing.T) {
	t.Parallel()
	k, p := randoms(14, 12), append(points()[1:6], wrong()...)
	oldK, oldP := slices.Clone(k), slices.Clone(p)
	for _, ends := range [][2]int{{14, 14}, {3, 9}, {9, 3}, {0, 0}, {7, 7}} {
		first := mult.Sum(k[:ends[0]], p[:ends[1]])
		check(t, "Sum", mult.Sum(k[:ends[0]], p[:ends[1]]), first, ends, "again")
	}
	if !slices.Equal(k, oldK) || !slices.Equal(p, oldP) {
		t.Error("Sum changed a list")
	}
}

func TestSumsAndProducts(t *testing.T) {
	t.Parallel()
	l := randoms(8, 13)
	for i := 0; i < len(l); i += 2 {
		a, b := l[i], l[i+1]
		sum := modulo(new(big.Int).Add(toBig(a), toBig(b)))
		product := modulo(new(big.Int).Mul(toBig(a), toBig(b)))
		p, r := points()[i+1], points()[i+2]
		check(t, "Mul", mult.Mul(sum, p), point.Add(mult.Mul(a, p), mult.Mul(b, p)), a, b, p)
		check(t, "Mul", mult.Mul(a, point.Add(p, r)), point.Add(mult.Mul(a, p), mult.Mul(a, r)), a, p, r)
		check(t, "Mul", mult.Mul(product, p), mult.Mul(a, mult.Mul(b, p)), a, b, p)
		check(t, "Sum", mult.Sum([]api.Num{a, b}, []api.Point{p, r}), point.Add(mult.Mul(a, p), mult.Mul(b, r)), a, b, p, r)
		check(t, "Sum", mult.Sum([]api.Num{a, b}, []api.Point{p, p}), mult.Mul(sum, p), a, b, p)
	}
}

func BenchmarkMul(b *testing.B) {
	k := randoms(1, 14)[0]
	for range b.N {
		mult.Mul(k, base)
	}
}
