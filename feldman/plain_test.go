package feldman_test

import (
	"math"
	"math/big"
	"slices"
	"testing"

	"sandglass/api"
)

const (
	top  = math.MaxUint64
	last = 1 << 31 // the last place that may be
)

var (
	prime    = digits("ffffffff00000001000000000000000000000000ffffffffffffffffffffffff")
	q        = digits("ffffffff00000000ffffffffffffffffbce6faada7179e84f3b9cac2fc632551")
	curveB   = digits("5ac635d8aa3a93e7b3ebbd55769886bc651d06b0cc53b0f63bce3c3e27d2604b")
	order    = fromBig(q)
	greatest = api.Num{top, top, top, top}
	none     = api.Point{None: true}
	base     = at("6b17d1f2e12c4247f8bce6e563a440f277037d812deb33a0f4a13945d898c296", "4fe342e2fe1a7f9b8ee7eb4a7c0f9e162bce33576b315ececbb6406837bf51f5")
	// The point with X 0, and 123456789 and -2 times the base.
	upright = at("0", "66485c780e2f83d72433bd5d84a06bb6541c2af31dae871728bf856a174f93f4")
	far     = at("fb50388f29498d0a93ad25ec4c34037b9d3cc3cca4787eb6fedabe2b3003eac8", "9f7765ca9d6288e6ff734f5cd08f3a5921cf54b21bb398b50ac0d2577fa07472")
	back    = at("7cf27b188d034f7e8a52380304b51ac3c08969e277f21b35a60b48fc47669978", "f888aaee24712fc0d6c26539608bcf244582521ac3167dd661fb4862dd878c2e")
)

func digits(hex string) *big.Int {
	n, ok := new(big.Int).SetString(hex, 16)
	if !ok {
		panic(hex)
	}
	return n
}

func num(hex string) api.Num { return fromBig(digits(hex)) }

func at(x, y string) api.Point { return api.Point{X: num(x), Y: num(y)} }

// toBig and fromBig are made of the words alone, so that no layer under the calls judges them.
func toBig(a api.Num) *big.Int {
	n := new(big.Int)
	for i := 3; i >= 0; i-- {
		n.Lsh(n, 64)
		n.Or(n, new(big.Int).SetUint64(a[i]))
	}
	return n
}

func fromBig(n *big.Int) api.Num {
	var a api.Num
	word := new(big.Int).SetUint64(top)
	for i := range a {
		a[i] = new(big.Int).And(new(big.Int).Rsh(n, uint(64*i)), word).Uint64()
	}
	return a
}

// residue is n modulo q, from 0 on, of an n that may be less than 0.
func residue(n *big.Int) api.Num { return fromBig(new(big.Int).Mod(n, q)) }

// near is q + n.
func near(n int64) api.Num { return fromBig(new(big.Int).Add(q, big.NewInt(n))) }

// plus is a + n modulo q.
func plus(a api.Num, n int64) api.Num { return residue(new(big.Int).Add(toBig(a), big.NewInt(n))) }

// mixed are n numbers without a pattern, others for each seed; every third one is q or more.
func mixed(n int, seed uint64) []api.Num {
	l := make([]api.Num, n)
	for i := range l {
		for j := range l[i] {
			seed = seed*6364136223846793005 + 1442695040888963407
			l[i][j] = seed ^ seed>>29
		}
		if i%3 == 2 {
			l[i][3] |= 0xffffffff80000000
		}
	}
	return l
}

// edges are the numbers at the ends of what is less than q, and of what a number holds.
func edges() []api.Num {
	return []api.Num{{}, {1}, near(-1), order, near(1), greatest}
}

// wrong are points for which On is false: they count as None.
func wrong() []api.Point {
	beside, below := base, base
	beside.X[3]++
	below.Y[0]--
	return []api.Point{
		{}, {X: api.Num{1}}, {Y: api.Num{1}}, {X: base.Y, Y: base.X}, beside, below,
		{X: greatest, Y: greatest}, {X: fromBig(prime), Y: upright.Y},
		{X: base.X, Y: base.Y, None: true}, {X: api.Num{1}, None: true}, {Y: greatest, None: true},
	}
}

// modulo is n modulo the prime.
func modulo(n *big.Int) *big.Int { return n.Mod(n, prime) }

// counted is what p counts as, by the document's words.
func counted(p api.Point) api.Point {
	x, y := toBig(p.X), toBig(p.Y)
	if p.None || x.Cmp(prime) >= 0 || y.Cmp(prime) >= 0 {
		return none
	}
	right := new(big.Int).Exp(x, big.NewInt(3), nil)
	right.Sub(right, new(big.Int).Mul(big.NewInt(3), x))
	right.Add(right, curveB)
	if modulo(y.Mul(y, y)).Cmp(modulo(right)) != 0 {
		return none
	}
	return p
}

// plainAdd is the sum of two points, None among them.
func plainAdd(p, r api.Point) api.Point {
	if p, r = counted(p), counted(r); p.None {
		return r
	} else if r.None {
		return p
	}
	rise, over := new(big.Int).Sub(toBig(r.Y), toBig(p.Y)), new(big.Int).Sub(toBig(r.X), toBig(p.X))
	if over.Sign() == 0 {
		if rise.Sign() != 0 {
			return none
		}
		rise.Mul(toBig(p.X), toBig(p.X))
		rise.Sub(rise.Mul(rise, big.NewInt(3)), big.NewInt(3))
		over.Lsh(toBig(p.Y), 1)
	}
	slope := modulo(rise.Mul(rise, over.ModInverse(modulo(over), prime)))
	x := new(big.Int).Mul(slope, slope)
	modulo(x.Sub(x.Sub(x, toBig(p.X)), toBig(r.X)))
	y := new(big.Int).Sub(toBig(p.X), x)
	modulo(y.Sub(y.Mul(y, slope), toBig(p.Y)))
	return api.Point{X: fromBig(x), Y: fromBig(y)}
}

// opposite is the point that makes None with p, which is on the curve and not None.
func opposite(p api.Point) api.Point {
	return api.Point{X: p.X, Y: fromBig(new(big.Int).Sub(prime, toBig(p.Y)))}
}

// plainMul is k times p, of a k that may be greater than a number holds: no rest is taken.
func plainMul(k *big.Int, p api.Point) api.Point {
	sum := none
	for bit := k.BitLen() - 1; bit >= 0; bit-- {
		sum = plainAdd(sum, sum)
		if k.Bit(bit) == 1 {
			sum = plainAdd(sum, p)
		}
	}
	return sum
}

// power is exact.
func power(place, by int) *big.Int {
	return new(big.Int).Exp(big.NewInt(int64(place)), big.NewInt(int64(by)), nil)
}

// plainEval is Eval at a place that is not below 0, with exact powers.
func plainEval(c []api.Point, place int) api.Point {
	sum := none
	for i, p := range c {
		sum = plainAdd(sum, plainMul(power(place, i), p))
	}
	return sum
}

// plainValue is the polynomial at a place that is not below 0, modulo q.
func plainValue(c []api.Num, place int) api.Num {
	sum := new(big.Int)
	for i, a := range c {
		sum.Add(sum, new(big.Int).Mul(power(place, i), toBig(a)))
	}
	return residue(sum)
}

// plainCommit is each coefficient times the base.
func plainCommit(c []api.Num) []api.Point {
	l := make([]api.Point, len(c))
	for i, a := range c {
		l[i] = plainMul(toBig(a), base)
	}
	return l
}

// shareAt is the polynomial's share at that place.
func shareAt(c []api.Num, place int) api.Share {
	return api.Share{At: place, V: plainValue(c, place)}
}

// polynomials have no coefficient, one, two and many, at the edges and without a pattern.
func polynomials() [][]api.Num {
	l := [][]api.Num{nil, {}, {{5}, {3}}, edges(), mixed(1, 1), mixed(2, 2), mixed(7, 3)}
	for i, a := range edges() {
		l = append(l, []api.Num{a}, []api.Num{a, edges()[5-i]}, []api.Num{{7}, a, {2}})
	}
	return append(l, slices.Concat(mixed(3, 4), edges(), mixed(4, 5)))
}

// The plain count is held against what the document says of the base, and against its known multiples.
func TestPlainCount(t *testing.T) {
	if got := plainMul(q, base); got != none {
		t.Errorf("q times the base: %v", got)
	}
	if got := plainMul(toBig(near(-1)), base); got != opposite(base) {
		t.Errorf("q - 1 times the base: %v", got)
	}
	if plainMul(big.NewInt(123456789), base) != far || plainMul(toBig(near(-2)), base) != back {
		t.Error("a known multiple is another one")
	}
	if counted(upright) != upright || plainAdd(upright, opposite(upright)) != none {
		t.Error("the point with X 0 is none")
	}
	for _, p := range wrong() {
		if counted(p) != none {
			t.Errorf("%v counts", p)
		}
	}
}
