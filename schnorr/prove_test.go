package schnorr_test

import (
	"math/big"
	"strconv"
	"testing"

	"sandglass/api"
	"sandglass/mult"
	"sandglass/point"
	"sandglass/schnorr"
	"sandglass/sec1"
)

// secrets are numbers of 1 to q - 1: at their ends, at those of words, and some without a pattern.
func secrets() []api.Num {
	l := []api.Num{
		{1}, {2}, {3}, {255}, {256}, {top}, {0, 1}, {0, 0, 1}, {0, 0, 0, 1}, {top, top, top},
		beside(q, -1), beside(q, -2), fromBig(new(big.Int).Rsh(order, 1)), {0, 0, 0, 1 << 63}, {1, 0, 0, q[3]}, {top, q[1] - 1, top, q[3]}, {top, top, top - 1, q[3]}, {q[0], q[1], top, q[3] - 1},
	}
	for _, k := range randoms(4, 31) {
		l = append(l, modulo(toBig(k)))
	}
	return l
}

// noSecrets are the numbers around those.
func noSecrets() []api.Num {
	return []api.Num{
		{}, q, beside(q, 1), beside(q, 2), most, beside(most, -1), prime, beside(prime, 1),
		{0, 0, 0, top}, {0, q[1] + 1, top, q[3]}, {q[0], q[1], top, q[3] + 1}, {q[0], top, top, q[3]},
	}
}

// 31.1: proofs of each secret by others; each is Verified.
func TestProve(t *testing.T) {
	t.Parallel()
	l := secrets()
	for i, k := range l {
		for _, r := range []api.Num{l[i], l[(i+1)%len(l)], l[(i+7)%len(l)]} {
			more := strconv.Itoa(i)
			s := prove(t, k, r, more)
			if len(s) != 65 {
				t.Fatalf("%d bytes", len(s))
			}
			taken(t, "a proof", multiple(k, base), s, more)
		}
	}
}

// 31.1: k and r of 1, 2, q - 1, each with each.
func TestProveAtEdges(t *testing.T) {
	t.Parallel()
	l := []api.Num{{1}, {2}, beside(q, -1)}
	for _, k := range l {
		for _, r := range l {
			s := prove(t, k, r, "x")
			taken(t, "a proof", multiple(k, base), s, "x")
			first, err := sec1.Decode(s[:33])
			if err != api.OK || !point.Same(first, mult.Base(r)) {
				t.Errorf("R of %x: %v, %d", r, first, err)
			}
		}
	}
}

// 31.1: other numbers than 1 to q - 1, as k, as r, as both: no bytes.
func TestProveOfNoSecret(t *testing.T) {
	t.Parallel()
	for _, no := range noSecrets() {
		for _, other := range append(noSecrets(), api.Num{1}, beside(q, -1), mixed) {
			for _, x := range [][2]api.Num{{no, other}, {other, no}} {
				if s, err := schnorr.Prove(x[0], x[1], "x"); s != "" || err != api.ErrArg {
					t.Errorf("Prove(%x, %x): %x, %d", x[0], x[1], s, err)
				}
				prove(t, x[0], x[1], "")
			}
		}
	}
}

// 31.1: texts of each length up to some blocks, and of many bytes.
func TestProveOfTexts(t *testing.T) {
	t.Parallel()
	text := allBytes() + allBytes()
	for _, n := range []int{0, 1, 55, 56, 63, 64, 65, 117, 118, 119, 120, 512} {
		taken(t, "a proof", ofBase(5), prove(t, api.Num{5}, api.Num{9}, text[:n]), text[:n])
	}
}

// 31.1: a z whose first bytes are 0 has all 32 bytes nevertheless; so has an x.
func TestProveOfShortNumbers(t *testing.T) {
	t.Parallel()
	one := api.Num{1}
	for _, more := range []string{low, beyond} {
		s := prove(t, one, one, more)
		if len(s) != 65 || s[33:37] != "\x00\x00\x00\x00" {
			t.Errorf("%q: %x", more, s)
		}
		taken(t, "a short z", base, s, more)
	}
	short := 0
	for i := int64(1); i < 2000 && short < 3; i++ {
		if first := ofBase(i); first.X[3]>>56 == 0 {
			s := prove(t, api.Num{3}, api.Num{uint64(i)}, "x")
			if len(s) != 65 || s[1] != 0 {
				t.Errorf("%d: %x", i, s)
			}
			taken(t, "a short x", ofBase(3), s, "x")
			short++
		}
	}
	if short < 3 {
		t.Errorf("%d short x", short)
	}
}

// 31.1: what the z are of two texts: they are apart by the challenges' difference times k.
func TestProveTwice(t *testing.T) {
	t.Parallel()
	k, r := mixed, api.Num{9}
	one, other := prove(t, k, r, "one"), prove(t, k, r, "other")
	if one[:33] != other[:33] {
		t.Errorf("%x and %x", one[:33], other[:33])
	}
	first, p := mult.Base(r), mult.Base(k)
	z := new(big.Int).Sub(new(big.Int).SetBytes([]byte(one[33:])), new(big.Int).SetBytes([]byte(other[33:])))
	c := new(big.Int).Sub(toBig(schnorr.Challenge(first, p, "one")), toBig(schnorr.Challenge(first, p, "other")))
	if modulo(c.Mul(c, toBig(k))) != modulo(z) {
		t.Errorf("%x and %x", one[33:], other[33:])
	}
}
