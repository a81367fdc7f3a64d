package drbg_test

import (
	"math/big"
	"strconv"
	"testing"

	"sandglass/api"
	"sandglass/drbg"
)

// 29.2: the number of the next 32 bytes, byte for byte.
func TestScalar(t *testing.T) {
	t.Parallel()
	order, _ := new(big.Int).SetString(orderDigits, 16)
	for i := range 1000 {
		seed := strconv.Itoa(i)
		s, err := drbg.New(seed).Bytes(32)
		if len(s) != 32 || err != api.OK {
			t.Fatalf("seed %s: %d bytes, %d", seed, len(s), err)
		}
		n := drbg.New(seed).Scalar()
		for k := range 32 {
			if got := byte(n[k/8] >> (k % 8 * 8)); got != s[31-k] {
				t.Fatalf("seed %s: Scalar is %x; the bytes are %s", seed, n, digits(s))
			}
		}
		if b := new(big.Int).SetBytes([]byte(s)); b.Sign() == 0 || b.Cmp(order) >= 0 {
			t.Errorf("seed %s: Scalar is %x, which is none of 1 to q - 1", seed, n)
		}
	}
}

// 29.2: what seeds of all lengths make, and between other calls.
func TestScalarBetween(t *testing.T) {
	t.Parallel()
	for i, seed := range seeds() {
		x := newPair(t, seed)
		x.scalars(t, 2)
		x.bytes(t, i%100)
		x.scalars(t, 1)
		x.bytes(t, 0, -1)
		x.scalars(t, 1)
		x.reseed("")
		x.scalars(t, 1)
		x.reseed("more")
		x.scalars(t, 1)
		x.polys(t, i%4)
		x.scalars(t, 1)
		if t.Failed() {
			t.Fatalf("seed %s", digits(seed))
		}
	}
}

// 29.2: a Scalar is asked for as a Bytes of 32 is: what follows it is the same.
func TestScalarIsBytes(t *testing.T) {
	one, two := drbg.New("seed"), drbg.New("seed")
	for range 20 {
		one.Scalar()
		two.Bytes(32)
		checkAsked(t, one, two.Asked())
	}
	same(t, one, two)
}

// passing is a seed that was searched for: behind that many numbers of 32 bytes the next one is q or more.
type passing struct {
	seed string
	at   int
}

func passings() []passing {
	return []passing{{"001192484093", 0}, {"001220527013", 0}, {"001622312291", 3}, {"001086831598", 4}, {"001489889020", 7}}
}

// highBytes holds that the next 32 bytes are those of a number that is q or more.
func (x passing) highBytes(t *testing.T, d *drbg.Drbg) {
	t.Helper()
	order, _ := new(big.Int).SetString(orderDigits, 16)
	s, err := d.Bytes(32)
	if n := new(big.Int).SetBytes([]byte(s)); len(s) != 32 || err != api.OK || n.Cmp(order) < 0 {
		t.Fatalf("seed %s: %s, %d", x.seed, digits(s), err)
	}
}

// 29.2: a number that is q or more is passed over, and the next one is told, which is 1 to q - 1; both were asked for.
func TestScalarPassesOver(t *testing.T) {
	for _, k := range passings() {
		x := newPair(t, k.seed)
		x.scalars(t, k.at)
		twin := drbg.New(k.seed)
		for range k.at {
			twin.Bytes(32)
		}
		k.highBytes(t, twin)
		s, _ := twin.Bytes(32)
		want := numOf(new(big.Int).SetBytes([]byte(s)))
		checkScalar(t, x.d, want)
		checkAsked(t, x.d, 32*(k.at+2))
		if n := x.p.scalar(); n != want || x.p.told != 32*(k.at+2) {
			t.Errorf("seed %s: the plain one tells %x; want %x", k.seed, n, want)
		}
		same(t, twin, x.d)
	}
}

// 29.2: a Poly passes over it, too, and goes on up to as many Scalars as were asked for.
func TestPolyPassesOver(t *testing.T) {
	for _, k := range passings() {
		for _, n := range []int{1, 2, 3, 4, 5, 6, 7, 8, 9} {
			x := newPair(t, k.seed)
			x.polys(t, n)
			want := 32 * min(n, 8)
			if n > k.at {
				want += 32
			}
			checkAsked(t, x.d, want)
			x.bytes(t, 32)
			x.polys(t, n)
		}
	}
}

// 29.1: Bytes passes over nothing.
func TestBytesPassNothing(t *testing.T) {
	for _, k := range passings() {
		x := newPair(t, k.seed)
		for range k.at {
			x.bytes(t, 32)
		}
		k.highBytes(t, x.d)
		checkAsked(t, x.d, 32*(k.at+1))
	}
}
