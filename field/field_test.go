package field_test

import (
	"math"
	"math/big"
	"testing"

	"sandglass/api"
	"sandglass/field"
)

const top = math.MaxUint64

var (
	zero  = api.Num{}
	one   = api.Num{1}
	two   = api.Num{2}
	most  = api.Num{top, top, top, top}
	p     = modulus()
	prime = fromBig(p)
)

// modulus is p, made as the document says it.
func modulus() *big.Int {
	n := new(big.Int)
	for _, c := range []struct {
		power uint
		sign  int64
	}{{256, 1}, {224, -1}, {192, 1}, {96, 1}, {0, -1}} {
		n.Add(n, new(big.Int).Lsh(big.NewInt(c.sign), c.power))
	}
	return n
}

// toBig and fromBig are made of the words alone, so that the calls under test are not their own judges.
func toBig(a api.Num) *big.Int {
	n := new(big.Int)
	for i := 3; i >= 0; i-- {
		n.Lsh(n, 64)
		n.Or(n, new(big.Int).SetUint64(a[i]))
	}
	return n
}

func fromBig(n *big.Int) api.Num {
	var a api.Num
	word := new(big.Int).SetUint64(top)
	for i := range a {
		a[i] = new(big.Int).And(new(big.Int).Rsh(n, uint(64*i)), word).Uint64()
	}
	return a
}

// near is p + n.
func near(n int64) api.Num { return fromBig(new(big.Int).Add(p, big.NewInt(n))) }

func residue(n *big.Int) api.Num { return fromBig(new(big.Int).Mod(n, p)) }

// half is (p + 1) / 2.
func half() api.Num { return fromBig(new(big.Int).Rsh(toBig(near(1)), 1)) }

// mixed is a row of numbers without a pattern, the same in each run; as p is close to 2^256, they are hardly ever p or more.
func mixed(count int) []api.Num {
	var l []api.Num
	state := uint64(2)
	next := func() uint64 {
		state += 0x9e3779b97f4a7c15
		z := state
		z = (z ^ z>>30) * 0xbf58476d1ce4e5b9
		z = (z ^ z>>27) * 0x94d049bb133111eb
		return z ^ z>>31
	}
	for range count {
		l = append(l, api.Num{next(), next(), next(), next()})
	}
	return l
}

// above are numbers that are p or more.
func above() []api.Num {
	l := []api.Num{prime, near(1), near(2), near(3), near(4), near(9), most, {top - 1, top, top, top}, {0, 0, 0, top}, {0, 0, 1, p3}, {0, p1 + 1, 0, p3}, {0, 0, 0, p3 + 1}}
	for _, a := range mixed(16) {
		a[3] |= 0xffffffff80000000
		l = append(l, a)
	}
	return l
}

// The words of p that are not all ones or 0.
const (
	p1 = 0xffffffff
	p3 = 0xffffffff00000001
)

// edges are the small numbers, those about p, 2^255 and 2^256, and some without a pattern.
func edges() []api.Num {
	l := []api.Num{zero, one, two, {3}, {4}, {9}, near(-1), near(-2), near(-3), near(-4), {0, 0, 0, 1 << 63}, {top, top, top, 1<<63 - 1}, {top}, {0, 1}, {top, top}, {0, 0, 1}, {top, top, top}, {0, 0, 0, 1}}
	l = append(l, half(), fromBig(new(big.Int).Rsh(p, 1)))
	return append(append(l, above()...), mixed(32)...)
}

// patterns are all numbers whose half words (32 bits) are each 0 or all ones: where the sums of a reduction run over or under.
func patterns() []api.Num {
	var l []api.Num
	for bits := range 256 {
		var a api.Num
		for i := range 8 {
			if bits>>i&1 == 1 {
				a[i/2] |= p1 << (i % 2 * 32)
			}
		}
		l = append(l, a)
	}
	return l
}

func TestPrime(t *testing.T) {
	want := api.Num{0xffffffffffffffff, 0x00000000ffffffff, 0, 0xffffffff00000001}
	if got := field.Prime(); got != want || got != prime {
		t.Errorf("Prime() = %x", got)
	}
}

func TestValid(t *testing.T) {
	for _, a := range append(edges(), patterns()...) {
		if got, want := field.Valid(a), toBig(a).Cmp(p) < 0; got != want {
			t.Errorf("Valid(%x) = %v", a, got)
		}
	}
	for _, a := range []api.Num{zero, one, near(-1), {top, top, top, p3 - 1}} {
		if !field.Valid(a) {
			t.Errorf("%x is not valid", a)
		}
	}
	for _, a := range above() {
		if field.Valid(a) {
			t.Errorf("%x is valid", a)
		}
	}
}

func TestCases(t *testing.T) {
	for _, c := range []struct {
		name      string
		got, want api.Num
	}{
		{"2 + 3", field.Add(two, api.Num{3}), api.Num{5}},
		{"0 + 0", field.Add(zero, zero), zero},
		{"p - 1 + 1: p itself is 0", field.Add(near(-1), one), zero},
		{"p - 2 + 1: just under p", field.Add(near(-2), one), near(-1)},
		{"p - 1 + 2: past p", field.Add(near(-1), two), one},
		{"p - 1 twice: past p and 2^256", field.Add(near(-1), near(-1)), near(-2)},
		{"p + 5", field.Add(prime, api.Num{5}), api.Num{5}},
		{"5 + p", field.Add(api.Num{5}, prime), api.Num{5}},
		{"p + p", field.Add(prime, prime), zero},
		{"p + 0", field.Add(prime, zero), zero},
		{"the greatest twice: 2^257 - 2", field.Add(most, most), residue(new(big.Int).Sub(new(big.Int).Lsh(big.NewInt(1), 257), big.NewInt(2)))},
		{"5 - 3", field.Sub(api.Num{5}, api.Num{3}), two},
		{"0 - 0", field.Sub(zero, zero), zero},
		{"0 - 1: below 0", field.Sub(zero, one), near(-1)},
		{"3 - 5: below 0", field.Sub(api.Num{3}, api.Num{5}), near(-2)},
		{"0 - (p - 1)", field.Sub(zero, near(-1)), one},
		{"0 - p", field.Sub(zero, prime), zero},
		{"p - 0", field.Sub(prime, zero), zero},
		{"p - p", field.Sub(prime, prime), zero},
		{"p - 1: of p", field.Sub(prime, one), near(-1)},
		{"0 - (p + 1)", field.Sub(zero, near(1)), near(-1)},
		{"0 - the greatest: below -p", field.Sub(zero, most), residue(new(big.Int).Neg(toBig(most)))},
		{"the greatest - 0", field.Sub(most, zero), residue(toBig(most))},
		{"6 * 7", field.Mul(api.Num{6}, api.Num{7}), api.Num{42}},
		{"0 * (p - 1)", field.Mul(zero, near(-1)), zero},
		{"1 * (p - 1)", field.Mul(one, near(-1)), near(-1)},
		{"(p - 1) * (p - 1)", field.Mul(near(-1), near(-1)), one},
		{"p * (p - 1)", field.Mul(prime, near(-1)), zero},
		{"1 * p", field.Mul(one, prime), zero},
		{"1 * (p + 1)", field.Mul(one, near(1)), one},
		{"(p + 2) * (p + 3)", field.Mul(near(2), near(3)), api.Num{6}},
		{"2^255 * 2", field.Mul(api.Num{0, 0, 0, 1 << 63}, two), residue(new(big.Int).Lsh(big.NewInt(1), 256))},
		{"the greatest twice, multiplied", field.Mul(most, most), residue(new(big.Int).Mul(toBig(most), toBig(most)))},
		{"Inv of 0", field.Inv(zero), zero},
		{"Inv of p", field.Inv(prime), zero},
		{"Inv of 1", field.Inv(one), one},
		{"Inv of p + 1", field.Inv(near(1)), one},
		{"Inv of p - 1", field.Inv(near(-1)), near(-1)},
		{"Inv of 2: (p + 1) / 2", field.Inv(two), half()},
		{"Inv of (p + 1) / 2", field.Inv(half()), two},
	} {
		if c.got != c.want {
			t.Errorf("%s: %x, not %x", c.name, c.got, c.want)
		}
	}
}

// TestArithmetic holds all pairs against numbers without a bound: what is the same as theirs is less than p, too.
func TestArithmetic(t *testing.T) {
	for _, l := range [][]api.Num{edges(), patterns()} {
		large := make([]*big.Int, len(l))
		for i, a := range l {
			large[i] = toBig(a)
		}
		for i, a := range l {
			for j, b := range l {
				judge(t, "Add", a, b, field.Add(a, b), new(big.Int).Add(large[i], large[j]))
				judge(t, "Sub", a, b, field.Sub(a, b), new(big.Int).Sub(large[i], large[j]))
				judge(t, "Mul", a, b, field.Mul(a, b), new(big.Int).Mul(large[i], large[j]))
			}
			if t.Failed() {
				return
			}
		}
	}
}

func TestMixedProducts(t *testing.T) {
	l := mixed(40001)
	for i := range len(l) - 1 {
		a, b := l[i], l[i+1]
		judge(t, "Mul", a, b, field.Mul(a, b), new(big.Int).Mul(toBig(a), toBig(b)))
		if t.Failed() {
			return
		}
	}
}

func judge(t *testing.T, name string, a, b, got api.Num, exact *big.Int) {
	t.Helper()
	if want := fromBig(exact.Mod(exact, p)); got != want {
		t.Errorf("%s(%x, %x) = %x, not %x", name, a, b, got, want)
	}
}

func TestInv(t *testing.T) {
	l := append(edges(), mixed(200)...)
	for i := int64(-40); i <= 40; i++ {
		l = append(l, near(i))
	}
	for _, a := range l {
		got := field.Inv(a)
		if residue(toBig(a)) == zero {
			if got != zero {
				t.Errorf("Inv(%x) = %x, not 0", a, got)
			}
			continue
		}
		if want := fromBig(new(big.Int).ModInverse(toBig(a), p)); got != want {
			t.Errorf("Inv(%x) = %x, not %x", a, got, want)
		}
		if field.Mul(a, got) != one || field.Mul(got, a) != one {
			t.Errorf("the product of %x and its inverse is not 1", a)
		}
		if back := field.Inv(got); back != residue(toBig(a)) {
			t.Errorf("the inverse of the inverse of %x is %x", a, back)
		}
	}
}

func TestSqrtCases(t *testing.T) {
	for _, c := range []struct {
		name string
		a    api.Num
		want api.Num
		is   bool
	}{
		{"0", zero, zero, true},
		{"p", prime, zero, true},
		{"1: of 1 and p - 1, p - 1 is even", one, near(-1), true},
		{"p + 1", near(1), near(-1), true},
		{"4", api.Num{4}, two, true},
		{"p + 4", near(4), two, true},
		{"9", api.Num{9}, near(-3), true},
		{"p + 9", near(9), near(-3), true},
		{"16", api.Num{16}, api.Num{4}, true},
		{"p - 1 has none", near(-1), zero, false},
		{"p - 4 has none", near(-4), zero, false},
		{"3 has none", api.Num{3}, zero, false},
		{"p + 3 has none", near(3), zero, false},
	} {
		if got, is := field.Sqrt(c.a); is != c.is || is && got != c.want || !is && got != zero {
			t.Errorf("%s: %x, %v, not %x, %v", c.name, got, is, c.want, c.is)
		}
	}
}

// TestSqrt: a number is a square, or its opposite is, as p is 3 modulo 4; so both answers come in all rows.
func TestSqrt(t *testing.T) {
	squares, others := 0, 0
	for _, a := range append(edges(), mixed(200)...) {
		for _, n := range []api.Num{a, field.Sub(zero, a), field.Mul(a, a), field.Sub(zero, field.Mul(a, a))} {
			root, is := field.Sqrt(n)
			if want := big.Jacobi(toBig(n), p) >= 0; is != want {
				t.Errorf("Sqrt(%x) says %v", n, is)
			}
			if !is {
				others++
				if root != zero {
					t.Errorf("Sqrt(%x) = %x beside false", n, root)
				}
				continue
			}
			squares++
			if root[0]&1 != 0 || toBig(root).Cmp(p) >= 0 {
				t.Errorf("Sqrt(%x) = %x: odd, or p or more", n, root)
			}
			if square := new(big.Int).Mul(toBig(root), toBig(root)); residue(square) != residue(toBig(n)) {
				t.Errorf("Sqrt(%x) = %x: not a root", n, root)
			}
		}
	}
	if squares < 300 || others < 300 {
		t.Errorf("%d squares, %d others: too few", squares, others)
	}
}

// TestSqrtOfSquares: the even one of the number and its opposite comes back.
func TestSqrtOfSquares(t *testing.T) {
	for _, a := range append(edges(), mixed(100)...) {
		even := residue(toBig(a))
		if even[0]&1 == 1 {
			even = fromBig(new(big.Int).Sub(p, toBig(even)))
		}
		if got, is := field.Sqrt(field.Mul(a, a)); got != even || !is {
			t.Errorf("Sqrt of the square of %x: %x, %v", a, got, is)
		}
	}
}

func TestBaseIsOnTheCurve(t *testing.T) {
	x := api.Num{0xf4a13945d898c296, 0x77037d812deb33a0, 0xf8bce6e563a440f2, 0x6b17d1f2e12c4247}
	y := api.Num{0xcbb6406837bf51f5, 0x2bce33576b315ece, 0x8ee7eb4a7c0f9e16, 0x4fe342e2fe1a7f9b}
	b := api.Num{0x3bce3c3e27d2604b, 0x651d06b0cc53b0f6, 0xb3ebbd55769886bc, 0x5ac635d8aa3a93e7}
	cube := field.Mul(field.Mul(x, x), x)
	side := field.Add(field.Sub(cube, field.Mul(api.Num{3}, x)), b)
	if field.Mul(y, y) != side {
		t.Error("the base is not on the curve")
	}
	if root, is := field.Sqrt(side); !is || field.Sub(zero, root) != y {
		t.Errorf("the root of the base's side: %x, %v", root, is)
	}
}
