package dleq_test

import (
	"math/big"
	"strconv"
	"testing"

	"sandglass/api"
	"sandglass/dleq"
	"sandglass/mult"
)

// secrets are numbers of 1 to q - 1: at their ends, at those of words, and some without a pattern.
func secrets() []api.Num {
	l := []api.Num{
		{1}, {2}, {3}, {255}, {256}, {top}, {0, 1}, {0, 0, 1}, {0, 0, 0, 1}, {top, top, top},
		beside(q, -1), beside(q, -2), fromBig(new(big.Int).Rsh(order, 1)), {0, 0, 0, 1 << 63}, {1, 0, 0, q[3]}, {top, q[1] - 1, top, q[3]}, {top, top, top - 1, q[3]}, {q[0], q[1], top, q[3] - 1},
	}
	for _, k := range randoms(4, 32) {
		l = append(l, modulo(toBig(k)))
	}
	return l
}

// noSecrets are the numbers around those.
func noSecrets() []api.Num {
	return []api.Num{
		{}, q, beside(q, 1), beside(q, 2), most, beside(most, -1), prime, beside(prime, 1),
		{0, 0, 0, top}, {0, q[1] + 1, top, q[3]}, {q[0], q[1], top, q[3] + 1}, {q[0], top, top, q[3]},
	}
}

// 32.1: proofs of each secret by others, on some point; each is Verified.
func TestProve(t *testing.T) {
	t.Parallel()
	l, p := secrets(), points()
	for i, k := range l {
		for j, r := range []api.Num{l[i], l[(i+1)%len(l)], l[(i+7)%len(l)]} {
			h, more := p[(i+j)%len(p)], strconv.Itoa(i)
			s := prove(t, h, k, r, more)
			if len(s) != 64 {
				t.Fatalf("%d bytes", len(s))
			}
			taken(t, "a proof", of(h, k), s, more)
		}
	}
}

// 32.1: k and r of 1, 2, q - 1, each with each, on the base, on another multiple of it, and on its opposite.
func TestProveAtEdges(t *testing.T) {
	t.Parallel()
	l := []api.Num{{1}, {2}, beside(q, -1)}
	for _, h := range []api.Point{base, ofBase(7), ofBase(-1)} {
		for _, k := range l {
			for _, r := range l {
				taken(t, "a proof", of(h, k), prove(t, h, k, r, "x"), "x")
			}
		}
	}
}

// 32.1: on each point that the tests know, and on its opposite.
func TestProveOnPoints(t *testing.T) {
	t.Parallel()
	for _, p := range points() {
		for _, h := range []api.Point{p, opposite(p)} {
			taken(t, "a proof", of(h, mixed), prove(t, h, modulo(toBig(mixed)), api.Num{9}, "x"), "x")
		}
	}
}

// 32.1: other numbers than 1 to q - 1, as k, as r, as both: no bytes.
func TestProveOfNoSecret(t *testing.T) {
	t.Parallel()
	for _, no := range noSecrets() {
		for _, other := range append(noSecrets(), api.Num{1}, beside(q, -1), modulo(toBig(mixed))) {
			fails(t, ofBase(7), no, other, api.ErrArg)
			fails(t, base, other, no, api.ErrArg)
		}
	}
}

// 32.1: an h that counts as None: no bytes.
func TestProveOnNoPoint(t *testing.T) {
	t.Parallel()
	for _, h := range wrong() {
		for _, k := range []api.Num{{1}, {5}, beside(q, -1)} {
			fails(t, h, k, api.Num{9}, api.ErrPoint)
			fails(t, h, api.Num{9}, k, api.ErrPoint)
		}
	}
}

// R2: where both errors are due, it is the one of the lesser number.
func TestProveOfBothWrong(t *testing.T) {
	t.Parallel()
	for _, h := range wrong() {
		for _, no := range noSecrets() {
			fails(t, h, no, api.Num{9}, api.ErrArg)
			fails(t, h, api.Num{9}, no, api.ErrArg)
			fails(t, h, no, no, api.ErrArg)
		}
	}
}

// 32.1: texts of each length up to some blocks, and of many bytes.
func TestProveOfTexts(t *testing.T) {
	t.Parallel()
	text := allBytes() + allBytes()
	h, k := ofBase(7), api.Num{5}
	for _, n := range []int{0, 1, 14, 15, 22, 23, 55, 56, 63, 64, 65, 512} {
		taken(t, "a proof", of(h, k), prove(t, h, k, api.Num{9}, text[:n]), text[:n])
	}
}

// 32.1: c and z whose first bytes are 0 have all 32 bytes nevertheless.
func TestProveOfShortNumbers(t *testing.T) {
	t.Parallel()
	last, one := beside(q, -1), api.Num{1}
	for _, more := range []string{low, beyond} {
		s := prove(t, base, last, one, more)
		if zeros := "\x00\x00\x00\x00"; len(s) != 64 || s[:4] != zeros || s[32:36] != zeros {
			t.Errorf("%q: %x", more, s)
		}
		taken(t, "short numbers", of(base, last), s, more)
	}
}

// 32.1: the first 32 bytes are the Challenge of all five points; those behind it go with r.
func TestProveIsOfChallenge(t *testing.T) {
	t.Parallel()
	h, k, r := ofBase(7), modulo(toBig(mixed)), api.Num{9, 9, 9}
	s := prove(t, h, k, r, "x")
	c := dleq.Challenge([]api.Point{h, mult.Base(k), mult.Mul(k, h), mult.Base(r), mult.Mul(r, h)}, "x")
	if s[:32] != bytesOf(c) {
		t.Errorf("%x; want %x", s[:32], c)
	}
	z := new(big.Int).SetBytes([]byte(s[32:]))
	if modulo(z.Add(z, new(big.Int).Mul(toBig(c), toBig(k)))) != r {
		t.Errorf("%x", s[32:])
	}
}

// 32.1: a secret on the base itself, and a secret that is its own r.
func TestProveOfEqual(t *testing.T) {
	t.Parallel()
	for _, k := range []api.Num{{1}, {7}, beside(q, -1)} {
		for _, h := range []api.Point{base, ofBase(7), multiple(k, base)} {
			minus := lessTimes(api.Num{}, k, api.Num{1})
			taken(t, "k by k", of(h, k), prove(t, h, k, k, "x"), "x")
			taken(t, "k by -k", of(h, k), prove(t, h, k, minus, "x"), "x")
		}
	}
}
