package dleq_test

import (
	"crypto/elliptic"
	"crypto/sha256"
	"encoding/hex"
	"math"
	"math/big"
	"testing"

	"sandglass/api"
	"sandglass/point"
)

const top = math.MaxUint64

var (
	none  = api.Point{None: true}
	curve = elliptic.P256()
	order = curve.Params().N
	base  = api.Point{X: fromBig(curve.Params().Gx), Y: fromBig(curve.Params().Gy)}
	q     = fromBig(order)
	prime = fromBig(curve.Params().P)
	most  = api.Num{top, top, top, top}
	mixed = num("ef4e3f50798387464764d41308391dedf25280c5dd34b87d233017428c278ee2")
)

// fromBig is made of the words alone, so that no layer under the calls judges them.
func fromBig(n *big.Int) api.Num {
	var a api.Num
	word := new(big.Int).SetUint64(top)
	for i := range a {
		a[i] = new(big.Int).And(new(big.Int).Rsh(n, uint(64*i)), word).Uint64()
	}
	return a
}

func toBig(a api.Num) *big.Int {
	n := new(big.Int)
	for i := 3; i >= 0; i-- {
		n.Lsh(n, 64)
		n.Or(n, new(big.Int).SetUint64(a[i]))
	}
	return n
}

func num(digits string) api.Num {
	n, ok := new(big.Int).SetString(digits, 16)
	if !ok || n.BitLen() > 256 {
		panic(digits)
	}
	return fromBig(n)
}

// beside is a + d, modulo 2^256.
func beside(a api.Num, d int) api.Num {
	return fromBig(new(big.Int).Add(toBig(a), big.NewInt(int64(d))))
}

// bytesOf are the 32 bytes of a number, the highest first.
func bytesOf(a api.Num) string { return string(toBig(a).FillBytes(make([]byte, 32))) }

// modulo is n modulo q, from 0 on, of an n that may be less than 0.
func modulo(n *big.Int) api.Num { return fromBig(new(big.Int).Mod(n, order)) }

// said is what a proof is of: that a is the same multiple of the base as b is of h.
type said struct{ h, a, b api.Point }

// of is it of the secret k.
func of(h api.Point, k api.Num) said { return said{h, multiple(k, base), multiple(k, h)} }

func fromCurve(x, y *big.Int) api.Point {
	if x.Sign() == 0 && y.Sign() == 0 {
		return none
	}
	return api.Point{X: fromBig(x), Y: fromBig(y)}
}

// isPoint is whether p counts as itself, and is not None, by the library's curve.
func isPoint(p api.Point) bool {
	x, y := toBig(p.X), toBig(p.Y)
	limit := curve.Params().P
	return !p.None && x.Cmp(limit) < 0 && y.Cmp(limit) < 0 && curve.IsOnCurve(x, y)
}

// multiple is k times p, of the library's curve; of a point that is none of it None.
func multiple(k api.Num, p api.Point) api.Point {
	if !isPoint(p) {
		return none
	}
	return fromCurve(curve.ScalarMult(toBig(p.X), toBig(p.Y), toBig(modulo(toBig(k))).Bytes()))
}

// ofBase is n times the base, of the library's curve; n may be less than 0.
func ofBase(n int64) api.Point { return multiple(modulo(big.NewInt(n)), base) }

// opposite is the point with the other Y.
func opposite(p api.Point) api.Point {
	return api.Point{X: p.X, Y: fromBig(new(big.Int).Sub(curve.Params().P, toBig(p.Y)))}
}

// encoded is the document's words for a point's bytes, over big numbers; nothing of one that has none.
func encoded(p api.Point) string {
	if !isPoint(p) {
		return ""
	}
	return string([]byte{2 + byte(p.Y[0]&1)}) + bytesOf(p.X)
}

// plus is the sum of two points, of the library's curve; one that is none of it counts nothing.
func plus(p, o api.Point) api.Point {
	if !isPoint(p) || !isPoint(o) {
		if isPoint(p) {
			return p
		}
		return multiple(api.Num{1}, o)
	}
	return fromCurve(curve.Add(toBig(p.X), toBig(p.Y), toBig(o.X), toBig(o.Y)))
}

// plainChallenge is the document's words, one by one, over the library's sum and big numbers.
func plainChallenge(l []api.Point, more string) api.Num {
	text := []byte("dleq")
	for _, p := range l {
		text = append(text, encoded(p)...)
	}
	sum := sha256.Sum256(append(text, more...))
	return modulo(new(big.Int).SetBytes(sum[:]))
}

// isSecret is whether k is 1 to q - 1.
func isSecret(k api.Num) bool {
	n := toBig(k)
	return n.Sign() > 0 && n.Cmp(order) < 0
}

// lessTimes is r less c times k, modulo q.
func lessTimes(r, c, k api.Num) api.Num {
	n := new(big.Int).Mul(toBig(c), toBig(k))
	return modulo(n.Sub(toBig(r), n))
}

// plainProve is the document's words, one by one.
func plainProve(h api.Point, k, r api.Num, more string) (string, api.Errno) {
	if !isSecret(k) || !isSecret(r) {
		return "", api.ErrArg
	}
	if !isPoint(h) {
		return "", api.ErrPoint
	}
	c := plainChallenge([]api.Point{h, multiple(k, base), multiple(k, h), multiple(r, base), multiple(r, h)}, more)
	return bytesOf(c) + bytesOf(lessTimes(r, c, k)), api.OK
}

// plainVerify is the document's words, one by one.
func plainVerify(s said, proof, more string) bool {
	if len(proof) != 64 {
		return false
	}
	c, z := new(big.Int).SetBytes([]byte(proof[:32])), new(big.Int).SetBytes([]byte(proof[32:]))
	if c.Cmp(order) >= 0 || z.Cmp(order) >= 0 || !isPoint(s.h) || !isPoint(s.a) || !isPoint(s.b) {
		return false
	}
	first := plus(multiple(fromBig(z), base), multiple(fromBig(c), s.a))
	second := plus(multiple(fromBig(z), s.h), multiple(fromBig(c), s.b))
	return plainChallenge([]api.Point{s.h, s.a, s.b, first, second}, more) == fromBig(c)
}

// randoms are n numbers of 256 bits without a pattern.
func randoms(n int, seed uint64) []api.Num {
	l := make([]api.Num, n)
	for i := range l {
		for j := range l[i] {
			seed = seed*6364136223846793005 + 1442695040888963407
			l[i][j] = seed ^ seed>>29
		}
	}
	return l
}

// points are the base and other multiples of it, and points with a small X or Y.
func points() []api.Point {
	return []api.Point{
		base, ofBase(2), ofBase(3), ofBase(-1), ofBase(-2), ofBase(1 << 40),
		{Y: num("66485c780e2f83d72433bd5d84a06bb6541c2af31dae871728bf856a174f93f4")},
		{X: api.Num{5}, Y: num("459243b9aa581806fe913bce99817ade11ca503c64d9a3c533415c083248fbcc")},
		{X: num("8d0177ebab9c6e9e10db6dd095dbac0d6375e8a97b70f611875d877f0069d2c7"), Y: api.Num{1}},
		multiple(mixed, base),
	}
}

// wrong are None, and points that count as it.
func wrong() []api.Point {
	x, y := base, base
	x.X[3]++
	y.Y[0]--
	l := points()
	return []api.Point{
		none, {}, {X: api.Num{1}}, {Y: api.Num{1}}, {X: base.Y, Y: base.X}, x, y,
		{X: prime, Y: prime}, {X: most, Y: most}, {X: prime, Y: base.Y}, {X: base.X, Y: prime}, {X: base.X, Y: most},
		// Those whose numbers are the ones of a point, but for the prime that is added to them.
		{X: prime, Y: l[6].Y}, {X: beside(prime, 5), Y: l[7].Y}, {X: l[8].X, Y: beside(prime, 1)},
		{X: base.X, Y: base.Y, None: true}, {X: api.Num{1}, None: true}, {Y: most, None: true},
	}
}

// The plain ones tell what another program tells.
func TestPlain(t *testing.T) {
	for _, x := range knownProofs() {
		if s, err := plainProve(x.h, x.k, x.r, x.more); hex.EncodeToString([]byte(s)) != x.want || err != api.OK {
			t.Errorf("%v, %x, %x, %q: %x, %d", x.h, x.k, x.r, x.more, s, err)
		}
	}
	for _, x := range knownChallenges() {
		if got := plainChallenge(x.l, x.more); got != x.want {
			t.Errorf("%v, %q: %x", x.l, x.more, got)
		}
	}
	for _, x := range []struct{ p, o, want api.Point }{{base, base, ofBase(2)}, {ofBase(2), ofBase(-3), ofBase(-1)}, {ofBase(4), ofBase(-4), none}, {base, none, base}, {none, base, base}, {none, api.Point{}, none}} {
		if got := plus(x.p, x.o); got != x.want {
			t.Errorf("%v and %v: %v", x.p, x.o, got)
		}
	}
}

// The points that the tests ask of are what they are said to be.
func TestPoints(t *testing.T) {
	for _, p := range points() {
		if !point.On(p) || !isPoint(p) {
			t.Errorf("%v is no point", p)
		}
	}
	for _, p := range wrong() {
		if !point.Same(p, none) || isPoint(p) {
			t.Errorf("%v is a point", p)
		}
	}
}
