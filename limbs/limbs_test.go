package limbs_test

import (
	"math"
	"math/big"
	"strings"
	"testing"

	"sandglass/api"
	"sandglass/limbs"
)

const top = math.MaxUint64

var (
	zero = api.Num{}
	one  = api.Num{1}
	most = api.Num{top, top, top, top}
)

// toBig is made of the words alone, so that the calls under test are not their own judges.
func toBig(a api.Num) *big.Int {
	n := new(big.Int)
	for i := 3; i >= 0; i-- {
		n.Lsh(n, 64)
		n.Or(n, new(big.Int).SetUint64(a[i]))
	}
	return n
}

func whole() *big.Int { return new(big.Int).Lsh(big.NewInt(1), 256) }

// mixed is a row of numbers without a pattern, the same in each run.
func mixed(count int) []api.Num {
	var l []api.Num
	state := uint64(1)
	next := func() uint64 {
		state += 0x9e3779b97f4a7c15
		z := state
		z = (z ^ z>>30) * 0xbf58476d1ce4e5b9
		z = (z ^ z>>27) * 0x94d049bb133111eb
		return z ^ z>>31
	}
	for range count {
		l = append(l, api.Num{next(), next(), next(), next()})
	}
	return l
}

// edges are all numbers whose words are each one of the words where carries begin or end, with some mixed ones.
func edges() []api.Num {
	words := []uint64{0, 1, 1 << 63, top}
	var l []api.Num
	for _, a := range words {
		for _, b := range words {
			for _, c := range words {
				for _, d := range words {
					l = append(l, api.Num{a, b, c, d})
				}
			}
		}
	}
	return append(l, mixed(64)...)
}

type sumCase struct {
	name string
	a, b api.Num
	want api.Num
	over bool
}

func TestAddCases(t *testing.T) {
	for _, c := range []sumCase{
		{"ordinary", api.Num{2}, api.Num{3}, api.Num{5}, false},
		{"ordinary in each word", api.Num{1, 2, 3, 4}, api.Num{5, 6, 7, 8}, api.Num{6, 8, 10, 12}, false},
		{"0 and 0", zero, zero, zero, false},
		{"0 and the greatest", zero, most, most, false},
		{"the greatest and 0", most, zero, most, false},
		{"the greatest and 1: a carry through all words", most, one, zero, true},
		{"1 and the greatest", one, most, zero, true},
		{"the greatest twice", most, most, api.Num{top - 1, top, top, top}, true},
		{"a carry out of word 0", api.Num{top}, one, api.Num{0, 1}, false},
		{"a carry out of word 1", api.Num{0, top}, api.Num{0, 1}, api.Num{0, 0, 1}, false},
		{"a carry out of word 2", api.Num{0, 0, top}, api.Num{0, 0, 1}, api.Num{0, 0, 0, 1}, false},
		{"a carry out of word 3", api.Num{0, 0, 0, 1 << 63}, api.Num{0, 0, 0, 1 << 63}, zero, true},
		{"a carry into the last word", api.Num{top, top, top}, one, api.Num{0, 0, 0, 1}, false},
		{"just under 2^256", api.Num{top, top, top, top - 1}, api.Num{0, 0, 0, 1}, most, false},
		{"a carry that a full word hands on", api.Num{top, 5}, api.Num{1, top}, api.Num{0, 5, 1}, false},
	} {
		got, over := limbs.Add(c.a, c.b)
		if got != c.want || over != c.over {
			t.Errorf("%s: Add(%v, %v) = %v, %v, not %v, %v", c.name, c.a, c.b, got, over, c.want, c.over)
		}
	}
}

func TestSubCases(t *testing.T) {
	for _, c := range []sumCase{
		{"ordinary", api.Num{5}, api.Num{3}, api.Num{2}, false},
		{"ordinary in each word", api.Num{6, 8, 10, 12}, api.Num{5, 6, 7, 8}, api.Num{1, 2, 3, 4}, false},
		{"ordinary, less", api.Num{3}, api.Num{5}, api.Num{top - 1, top, top, top}, true},
		{"0 and 0", zero, zero, zero, false},
		{"the greatest of itself", most, most, zero, false},
		{"the greatest and 0", most, zero, most, false},
		{"0 and 1: a borrow through all words", zero, one, most, true},
		{"0 and the greatest", zero, most, one, true},
		{"a borrow from word 1", api.Num{0, 1}, one, api.Num{top}, false},
		{"a borrow from word 2", api.Num{0, 0, 1}, api.Num{0, 1}, api.Num{0, top}, false},
		{"a borrow from word 3", api.Num{0, 0, 0, 1}, api.Num{0, 0, 1}, api.Num{0, 0, top}, false},
		{"a borrow from the last word", api.Num{0, 0, 0, 1}, one, api.Num{top, top, top}, false},
		{"less by the last word alone", api.Num{top, top, top, 1}, api.Num{0, 0, 0, 2}, api.Num{top, top, top, top}, true},
		{"a borrow that a full word hands on", api.Num{0, 5, 1}, api.Num{1, 5}, api.Num{top, top}, false},
	} {
		got, less := limbs.Sub(c.a, c.b)
		if got != c.want || less != c.over {
			t.Errorf("%s: Sub(%v, %v) = %v, %v, not %v, %v", c.name, c.a, c.b, got, less, c.want, c.over)
		}
	}
}

func TestMulCases(t *testing.T) {
	for _, c := range []struct {
		name            string
		a, b, low, high api.Num
	}{
		{"ordinary", api.Num{6}, api.Num{7}, api.Num{42}, zero},
		{"ordinary in two words", api.Num{2, 3}, api.Num{5, 7}, api.Num{10, 29, 21}, zero},
		{"0 and the greatest", zero, most, zero, zero},
		{"1 and the greatest", one, most, most, zero},
		{"the greatest and 1", most, one, most, zero},
		{"the greatest twice", most, most, one, api.Num{top - 1, top, top, top}},
		{"2^255 and 2", api.Num{0, 0, 0, 1 << 63}, api.Num{2}, zero, one},
		{"2 and 2^255", api.Num{2}, api.Num{0, 0, 0, 1 << 63}, zero, one},
		{"2^255 twice", api.Num{0, 0, 0, 1 << 63}, api.Num{0, 0, 0, 1 << 63}, zero, api.Num{0, 0, 0, 1 << 62}},
		{"2^128 twice", api.Num{0, 0, 1}, api.Num{0, 0, 1}, zero, one},
		{"a word's greatest twice", api.Num{top}, api.Num{top}, api.Num{1, top - 1}, zero},
		{"just under 2^256", api.Num{top, top}, api.Num{1, 0, 1}, most, zero},
	} {
		low, high := limbs.Mul(c.a, c.b)
		if low != c.low || high != c.high {
			t.Errorf("%s: Mul(%v, %v) = %v, %v, not %v, %v", c.name, c.a, c.b, low, high, c.low, c.high)
		}
	}
}

// TestArithmetic holds all pairs of the edges against numbers without a bound.
func TestArithmetic(t *testing.T) {
	l := edges()
	modulus := whole()
	large := make([]*big.Int, len(l))
	for i, a := range l {
		large[i] = toBig(a)
	}
	for i, a := range l {
		for j, b := range l {
			judgeSum(t, a, b, new(big.Int).Add(large[i], large[j]), modulus)
			judgeRest(t, a, b, new(big.Int).Sub(large[i], large[j]), modulus)
			judgeProduct(t, a, b, new(big.Int).Mul(large[i], large[j]), modulus)
			if got, want := limbs.Cmp(a, b), large[i].Cmp(large[j]); got != want {
				t.Errorf("Cmp(%v, %v) = %d, not %d", a, b, got, want)
			}
			if t.Failed() {
				return
			}
		}
	}
}

func judgeSum(t *testing.T, a, b api.Num, want, modulus *big.Int) {
	t.Helper()
	over := want.Cmp(modulus) >= 0
	want.Mod(want, modulus)
	if got, carry := limbs.Add(a, b); toBig(got).Cmp(want) != 0 || carry != over {
		t.Errorf("Add(%v, %v) = %v, %v, not %x, %v", a, b, got, carry, want, over)
	}
}

func judgeRest(t *testing.T, a, b api.Num, want, modulus *big.Int) {
	t.Helper()
	less := want.Sign() < 0
	want.Mod(want, modulus)
	if got, borrow := limbs.Sub(a, b); toBig(got).Cmp(want) != 0 || borrow != less {
		t.Errorf("Sub(%v, %v) = %v, %v, not %x, %v", a, b, got, borrow, want, less)
	}
}

func judgeProduct(t *testing.T, a, b api.Num, want, modulus *big.Int) {
	t.Helper()
	high, low := new(big.Int).DivMod(want, modulus, new(big.Int))
	if gotLow, gotHigh := limbs.Mul(a, b); toBig(gotLow).Cmp(low) != 0 || toBig(gotHigh).Cmp(high) != 0 {
		t.Errorf("Mul(%v, %v) = %v, %v, not %x, %x", a, b, gotLow, gotHigh, low, high)
	}
}

func TestCmpCases(t *testing.T) {
	for _, c := range []struct {
		name string
		a, b api.Num
		want int
	}{
		{"ordinary", api.Num{2}, api.Num{3}, -1},
		{"0 and 0", zero, zero, 0},
		{"the greatest and itself", most, most, 0},
		{"0 and the greatest", zero, most, -1},
		{"word 0 alone", api.Num{1, 7, 7, 7}, api.Num{2, 7, 7, 7}, -1},
		{"word 1 before word 0", api.Num{top, 1, 7, 7}, api.Num{0, 2, 7, 7}, -1},
		{"word 2 before the lower ones", api.Num{top, top, 1, 7}, api.Num{0, 0, 2, 7}, -1},
		{"word 3 before the lower ones", api.Num{top, top, top, 1}, api.Num{0, 0, 0, 2}, -1},
		{"words have no sign", api.Num{0, 0, 0, 1}, api.Num{0, 0, 0, 1 << 63}, -1},
	} {
		if got := limbs.Cmp(c.a, c.b); got != c.want {
			t.Errorf("%s: Cmp(%v, %v) = %d, not %d", c.name, c.a, c.b, got, c.want)
		}
		if got := limbs.Cmp(c.b, c.a); got != -c.want {
			t.Errorf("%s: Cmp(%v, %v) = %d, not %d", c.name, c.b, c.a, got, -c.want)
		}
	}
}

func TestBytesOrder(t *testing.T) {
	a := api.Num{0x18191a1b1c1d1e1f, 0x1011121314151617, 0x08090a0b0c0d0e0f, 0x0001020304050607}
	got := limbs.Bytes(a)
	if len(got) != 32 {
		t.Fatalf("%d bytes", len(got))
	}
	for i := range 32 {
		if got[i] != byte(i) {
			t.Errorf("byte %d is %d", i, got[i])
		}
	}
	if back, err := limbs.From(got); back != a || err != api.OK {
		t.Errorf("From: %v, %v", back, err)
	}
}

func TestBytesAndFromEdges(t *testing.T) {
	for _, c := range []struct {
		a    api.Num
		want string
	}{
		{zero, strings.Repeat("\x00", 32)},
		{one, strings.Repeat("\x00", 31) + "\x01"},
		{most, strings.Repeat("\xff", 32)},
		{api.Num{0, 0, 0, 1 << 63}, "\x80" + strings.Repeat("\x00", 31)},
	} {
		if got := limbs.Bytes(c.a); got != c.want {
			t.Errorf("Bytes(%v) = %q, not %q", c.a, got, c.want)
		}
		if got, err := limbs.From(c.want); got != c.a || err != api.OK {
			t.Errorf("From(%q) = %v, %v, not %v", c.want, got, err, c.a)
		}
	}
}

func TestBytesAndFromGoBack(t *testing.T) {
	for _, a := range edges() {
		text := limbs.Bytes(a)
		if want := string(toBig(a).FillBytes(make([]byte, 32))); text != want {
			t.Errorf("Bytes(%v) = %q, not %q", a, text, want)
		}
		if back, err := limbs.From(text); back != a || err != api.OK {
			t.Errorf("From(Bytes(%v)) = %v, %v", a, back, err)
		}
	}
}

func TestFromRefusesOtherSizes(t *testing.T) {
	sizes := []int{33, 63, 64, 65, 256, 288, 1 << 16, 1<<16 + 32}
	for n := range 32 {
		sizes = append(sizes, n)
	}
	for _, n := range sizes {
		got, err := limbs.From(strings.Repeat("\xff", n))
		if got != zero || err != api.ErrSize {
			t.Errorf("From of %d bytes: %v, %v", n, got, err)
		}
	}
	// 32 runes that are more than 32 bytes: bytes count.
	if got, err := limbs.From(strings.Repeat("é", 32)); got != zero || err != api.ErrSize {
		t.Errorf("From of 32 runes: %v, %v", got, err)
	}
	if _, err := limbs.From(strings.Repeat("é", 16)); err != api.OK {
		t.Errorf("From of 16 runes of 2 bytes: %v", err)
	}
}

func TestBitEach(t *testing.T) {
	for place := range 256 {
		var single api.Num
		single[place/64] = 1 << (place % 64)
		without := most
		without[place/64] ^= single[place/64]
		for i := range 256 {
			if got := limbs.Bit(single, i); got != (i == place) {
				t.Errorf("Bit(2^%d, %d) = %v", place, i, got)
			}
			if got := limbs.Bit(without, i); got != (i != place) {
				t.Errorf("Bit(all but 2^%d, %d) = %v", place, i, got)
			}
		}
	}
}

func TestBitMixed(t *testing.T) {
	for _, a := range mixed(16) {
		large := toBig(a)
		for i := range 256 {
			if got := limbs.Bit(a, i); got != (large.Bit(i) == 1) {
				t.Errorf("Bit(%v, %d) = %v", a, i, got)
			}
		}
	}
}

func TestBitOutside(t *testing.T) {
	for _, i := range []int{-1, -2, -63, -64, -65, -255, -256, -257, 256, 257, 319, 320, 511, 512, 1 << 16, 1 << 32, 1<<32 + 1, -1 << 32, math.MinInt32, math.MaxInt32, math.MinInt, math.MinInt + 1, math.MinInt + 255, math.MaxInt} {
		if limbs.Bit(most, i) {
			t.Errorf("Bit %d is set", i)
		}
	}
}
