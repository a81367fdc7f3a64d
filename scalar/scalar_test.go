package scalar_test

import (
	"math"
	"math/big"
	"strings"
	"testing"

	"sandglass/api"
	"sandglass/scalar"
)

const top = math.MaxUint64

var (
	zero  = api.Num{}
	one   = api.Num{1}
	two   = api.Num{2}
	most  = api.Num{top, top, top, top}
	q, _  = new(big.Int).SetString("ffffffff00000000ffffffffffffffffbce6faada7179e84f3b9cac2fc632551", 16)
	order = fromBig(q)
)

// toBig and fromBig are made of the words alone, so that the calls under test are not their own judges.
func toBig(a api.Num) *big.Int {
	n := new(big.Int)
	for i := 3; i >= 0; i-- {
		n.Lsh(n, 64)
		n.Or(n, new(big.Int).SetUint64(a[i]))
	}
	return n
}

func fromBig(n *big.Int) api.Num {
	var a api.Num
	word := new(big.Int).SetUint64(top)
	for i := range a {
		a[i] = new(big.Int).And(new(big.Int).Rsh(n, uint(64*i)), word).Uint64()
	}
	return a
}

// near is q + n.
func near(n int64) api.Num { return fromBig(new(big.Int).Add(q, big.NewInt(n))) }

func residue(n *big.Int) api.Num { return fromBig(new(big.Int).Mod(n, q)) }

// power2 is 2^e + n.
func power2(e uint, n int64) *big.Int {
	p := new(big.Int).Lsh(big.NewInt(1), e)
	return p.Add(p, big.NewInt(n))
}

// half is (q + 1) / 2.
func half() api.Num { return fromBig(new(big.Int).Rsh(toBig(near(1)), 1)) }

// mixed is a row of numbers without a pattern, the same in each run; as q is close to 2^256, they are hardly ever q or more.
func mixed(count int) []api.Num {
	var l []api.Num
	state := uint64(3)
	next := func() uint64 {
		state += 0x9e3779b97f4a7c15
		z := state
		z = (z ^ z>>30) * 0xbf58476d1ce4e5b9
		z = (z ^ z>>27) * 0x94d049bb133111eb
		return z ^ z>>31
	}
	for range count {
		l = append(l, api.Num{next(), next(), next(), next()})
	}
	return l
}

// above are numbers that are q or more; by some it is one word alone that tells.
func above() []api.Num {
	l := []api.Num{order, near(1), near(2), near(3), near(4), near(9), most, {top - 1, top, top, top}, {0, 0, 0, top}}
	l = append(l, api.Num{0, order[1] + 1, order[2], order[3]}, api.Num{0, 0, 0, order[3] + 1}, api.Num{top, order[1], order[2], order[3]})
	for _, a := range mixed(16) {
		a[3] |= 0xffffffff80000000
		l = append(l, a)
	}
	return l
}

// below are numbers less than q; by some it is one word alone that tells.
func below() []api.Num {
	l := []api.Num{zero, one, two, {3}, {4}, {9}, near(-1), near(-2), near(-3), near(-4)}
	l = append(l, api.Num{top, order[1] - 1, order[2], order[3]}, api.Num{top, top, order[2] - 1, order[3]}, api.Num{top, top, top, order[3] - 1})
	return append(l, half(), fromBig(new(big.Int).Rsh(q, 1)))
}

// edges are the numbers about 0, q, 2^64, 2^128, 2^192, 2^255 and 2^256, and some without a pattern.
func edges() []api.Num {
	l := []api.Num{{top}, {0, 1}, {top, top}, {0, 0, 1}, {top, top, top}, {0, 0, 0, 1}, {top, top, top, 1<<63 - 1}, {0, 0, 0, 1 << 63}}
	l = append(append(l, below()...), above()...)
	return append(l, mixed(32)...)
}

// patterns are all numbers whose half words (32 bits) are each 0 or all ones: where the sums of a reduction run over.
func patterns() []api.Num {
	var l []api.Num
	for bits := range 256 {
		var a api.Num
		for i := range 8 {
			if bits>>i&1 == 1 {
				a[i/2] |= 0xffffffff << (i % 2 * 32)
			}
		}
		l = append(l, a)
	}
	return l
}

func TestOrder(t *testing.T) {
	want := api.Num{0xf3b9cac2fc632551, 0xbce6faada7179e84, 0xffffffffffffffff, 0xffffffff00000000}
	if got := scalar.Order(); got != want || got != order {
		t.Errorf("Order() = %x", got)
	}
}

func TestValid(t *testing.T) {
	for _, a := range append(edges(), patterns()...) {
		if got, want := scalar.Valid(a), toBig(a).Cmp(q) < 0; got != want {
			t.Errorf("Valid(%x) = %v", a, got)
		}
	}
	for _, a := range below() {
		if !scalar.Valid(a) {
			t.Errorf("%x is not valid", a)
		}
	}
	for _, a := range above() {
		if scalar.Valid(a) {
			t.Errorf("%x is valid", a)
		}
	}
}

func TestCases(t *testing.T) {
	for _, c := range []struct {
		name      string
		got, want api.Num
	}{
		{"2 + 3", scalar.Add(two, api.Num{3}), api.Num{5}},
		{"0 + 0", scalar.Add(zero, zero), zero},
		{"q - 1 + 1: q itself is 0", scalar.Add(near(-1), one), zero},
		{"q - 2 + 1: just under q", scalar.Add(near(-2), one), near(-1)},
		{"q - 1 + 2: past q", scalar.Add(near(-1), two), one},
		{"q - 1 twice: past q and 2^256", scalar.Add(near(-1), near(-1)), near(-2)},
		{"q + 5", scalar.Add(order, api.Num{5}), api.Num{5}},
		{"5 + q", scalar.Add(api.Num{5}, order), api.Num{5}},
		{"q + q", scalar.Add(order, order), zero},
		{"q + 0", scalar.Add(order, zero), zero},
		{"q + 1 + q + 1", scalar.Add(near(1), near(1)), two},
		{"the greatest twice: 2^257 - 2", scalar.Add(most, most), residue(power2(257, -2))},
		{"5 - 3", scalar.Sub(api.Num{5}, api.Num{3}), two},
		{"0 - 0", scalar.Sub(zero, zero), zero},
		{"0 - 1: below 0", scalar.Sub(zero, one), near(-1)},
		{"3 - 5: below 0", scalar.Sub(api.Num{3}, api.Num{5}), near(-2)},
		{"0 - (q - 1)", scalar.Sub(zero, near(-1)), one},
		{"0 - q", scalar.Sub(zero, order), zero},
		{"q - 0", scalar.Sub(order, zero), zero},
		{"q - q", scalar.Sub(order, order), zero},
		{"q - 1: of q", scalar.Sub(order, one), near(-1)},
		{"0 - (q + 1): below -q", scalar.Sub(zero, near(1)), near(-1)},
		{"0 - the greatest: below -q", scalar.Sub(zero, most), residue(new(big.Int).Neg(toBig(most)))},
		{"the greatest - 0", scalar.Sub(most, zero), residue(toBig(most))},
		{"6 * 7", scalar.Mul(api.Num{6}, api.Num{7}), api.Num{42}},
		{"0 * (q - 1)", scalar.Mul(zero, near(-1)), zero},
		{"1 * (q - 1)", scalar.Mul(one, near(-1)), near(-1)},
		{"(q - 1) * (q - 1)", scalar.Mul(near(-1), near(-1)), one},
		{"q * (q - 1)", scalar.Mul(order, near(-1)), zero},
		{"1 * q", scalar.Mul(one, order), zero},
		{"1 * (q + 1)", scalar.Mul(one, near(1)), one},
		{"(q + 2) * (q + 3)", scalar.Mul(near(2), near(3)), api.Num{6}},
		{"2^255 * 2: the lower half is 0", scalar.Mul(api.Num{0, 0, 0, 1 << 63}, two), residue(power2(256, 0))},
		{"the greatest twice, multiplied", scalar.Mul(most, most), residue(new(big.Int).Mul(toBig(most), toBig(most)))},
		{"Inv of 0", scalar.Inv(zero), zero},
		{"Inv of q", scalar.Inv(order), zero},
		{"Inv of 1", scalar.Inv(one), one},
		{"Inv of q + 1", scalar.Inv(near(1)), one},
		{"Inv of q - 1", scalar.Inv(near(-1)), near(-1)},
		{"Inv of 2: (q + 1) / 2", scalar.Inv(two), half()},
		{"Inv of (q + 1) / 2", scalar.Inv(half()), two},
	} {
		if c.got != c.want {
			t.Errorf("%s: %x, not %x", c.name, c.got, c.want)
		}
	}
}

// TestArithmetic holds all pairs against numbers without a bound: what is the same as theirs is less than q, too.
func TestArithmetic(t *testing.T) {
	for _, l := range [][]api.Num{edges(), patterns()} {
		large := make([]*big.Int, len(l))
		for i, a := range l {
			large[i] = toBig(a)
		}
		for i, a := range l {
			for j, b := range l {
				judge(t, "Add", a, b, scalar.Add(a, b), new(big.Int).Add(large[i], large[j]))
				judge(t, "Sub", a, b, scalar.Sub(a, b), new(big.Int).Sub(large[i], large[j]))
				judge(t, "Mul", a, b, scalar.Mul(a, b), new(big.Int).Mul(large[i], large[j]))
			}
			if t.Failed() {
				return
			}
		}
	}
}

func TestMixedProducts(t *testing.T) {
	l := mixed(40001)
	for i := range len(l) - 1 {
		a, b := l[i], l[i+1]
		judge(t, "Mul", a, b, scalar.Mul(a, b), new(big.Int).Mul(toBig(a), toBig(b)))
		if t.Failed() {
			return
		}
	}
}

func judge(t *testing.T, name string, a, b, got api.Num, exact *big.Int) {
	t.Helper()
	if want := fromBig(exact.Mod(exact, q)); got != want {
		t.Errorf("%s(%x, %x) = %x, not %x", name, a, b, got, want)
	}
}

func TestInv(t *testing.T) {
	l := append(edges(), mixed(200)...)
	for i := int64(-40); i <= 40; i++ {
		l = append(l, near(i))
	}
	for _, a := range l {
		got := scalar.Inv(a)
		if residue(toBig(a)) == zero {
			if got != zero {
				t.Errorf("Inv(%x) = %x, not 0", a, got)
			}
			continue
		}
		if want := fromBig(new(big.Int).ModInverse(toBig(a), q)); got != want {
			t.Errorf("Inv(%x) = %x, not %x", a, got, want)
		}
		if scalar.Mul(a, got) != one || scalar.Mul(got, a) != one {
			t.Errorf("the product of %x and its inverse is not 1", a)
		}
		if back := scalar.Inv(got); back != residue(toBig(a)) {
			t.Errorf("the inverse of the inverse of %x is %x", a, back)
		}
	}
}

// text is the number's bytes, the highest first, as many as are asked for.
func text(n *big.Int, bytes int) string { return string(n.FillBytes(make([]byte, bytes))) }

// product is x * y + n.
func product(x, y *big.Int, n int64) *big.Int {
	p := new(big.Int).Mul(x, y)
	return p.Add(p, big.NewInt(n))
}

func TestWideCases(t *testing.T) {
	for _, c := range []struct {
		name string
		s    string
		want api.Num
	}{
		{"64 bytes 0", strings.Repeat("\x00", 64), zero},
		{"63 bytes 0 and 5", strings.Repeat("\x00", 63) + "\x05", api.Num{5}},
		{"63 bytes 0 and 255", strings.Repeat("\x00", 63) + "\xff", api.Num{255}},
		{"62 bytes 0, 1 and 2: the highest first", strings.Repeat("\x00", 62) + "\x01\x02", api.Num{0x102}},
		{"64 bytes 255: 2^512 - 1", strings.Repeat("\xff", 64), residue(power2(512, -1))},
		{"1 and 63 bytes 0: 2^504", "\x01" + strings.Repeat("\x00", 63), residue(power2(504, 0))},
		{"2^511", "\x80" + strings.Repeat("\x00", 63), residue(power2(511, 0))},
		{"the upper half 0, the lower one 255s", text(power2(256, -1), 64), residue(power2(256, -1))},
		{"the upper half 1, the lower one 0", text(power2(256, 0), 64), residue(power2(256, 0))},
		{"the upper half 255s, the lower one 0", text(new(big.Int).Lsh(power2(256, -1), 256), 64), residue(new(big.Int).Lsh(power2(256, -1), 256))},
		{"q - 1", text(product(q, toBig(one), -1), 64), near(-1)},
		{"q", text(q, 64), zero},
		{"q + 1", text(product(q, toBig(one), 1), 64), one},
		{"q in the upper half", text(q, 32) + text(toBig(one), 32), one},
		{"q in both halves", text(q, 32) + text(q, 32), zero},
		{"q + 1 in both halves", text(toBig(near(1)), 32) + text(toBig(near(1)), 32), residue(power2(256, 1))},
		{"q squared - 1", text(product(q, q, -1), 64), near(-1)},
		{"q squared", text(product(q, q, 0), 64), zero},
		{"q squared + 1", text(product(q, q, 1), 64), one},
	} {
		if got, err := scalar.Wide(c.s); got != c.want || err != api.OK {
			t.Errorf("%s: %x, %d, not %x", c.name, got, err, c.want)
		}
	}
}

// TestWide holds all pairs of halves against numbers without a bound; many of them are q or more in the upper half, in the lower one, or in both.
func TestWide(t *testing.T) {
	for _, l := range [][]api.Num{edges(), patterns()} {
		for _, high := range l {
			for _, low := range l {
				n := new(big.Int).Lsh(toBig(high), 256)
				n.Or(n, toBig(low))
				if got, err := scalar.Wide(text(n, 64)); got != residue(n) || err != api.OK {
					t.Fatalf("Wide of %x = %x, %d, not %x", n, got, err, residue(n))
				}
			}
		}
	}
}

func TestWideOfOtherTexts(t *testing.T) {
	for size := range 200 {
		if size == 64 {
			continue
		}
		for _, letter := range []string{"\x00", "\x01", "a", "\xff"} {
			if got, err := scalar.Wide(strings.Repeat(letter, size)); got != zero || err != api.ErrSize {
				t.Errorf("Wide of %d times %q = %x, %d", size, letter, got, err)
			}
		}
	}
}
