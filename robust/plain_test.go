package robust_test

import (
	"crypto/elliptic"
	"math"
	"math/big"
	"slices"
	"testing"

	"sandglass/api"
)

const (
	top  = math.MaxUint64
	last = 1 << 31 // the last place that may be
)

var (
	curve    = elliptic.P256()
	q        = digits("ffffffff00000000ffffffffffffffffbce6faada7179e84f3b9cac2fc632551")
	order    = fromBig(q)
	greatest = api.Num{top, top, top, top}
	none     = api.Point{None: true}
	base     = at("6b17d1f2e12c4247f8bce6e563a440f277037d812deb33a0f4a13945d898c296", "4fe342e2fe1a7f9b8ee7eb4a7c0f9e162bce33576b315ececbb6406837bf51f5")
)

func digits(hex string) *big.Int {
	n, ok := new(big.Int).SetString(hex, 16)
	if !ok {
		panic(hex)
	}
	return n
}

func num(hex string) api.Num { return fromBig(digits(hex)) }

func at(x, y string) api.Point { return api.Point{X: num(x), Y: num(y)} }

// toBig and fromBig are made of the words alone, so that no layer under the calls judges them.
func toBig(a api.Num) *big.Int {
	n := new(big.Int)
	for i := 3; i >= 0; i-- {
		n.Lsh(n, 64)
		n.Or(n, new(big.Int).SetUint64(a[i]))
	}
	return n
}

func fromBig(n *big.Int) api.Num {
	var a api.Num
	word := new(big.Int).SetUint64(top)
	for i := range a {
		a[i] = new(big.Int).And(new(big.Int).Rsh(n, uint(64*i)), word).Uint64()
	}
	return a
}

// residue is n modulo q, from 0 on, of an n that may be less than 0.
func residue(n *big.Int) api.Num { return fromBig(new(big.Int).Mod(n, q)) }

// near is q + n.
func near(n int64) api.Num { return fromBig(new(big.Int).Add(q, big.NewInt(n))) }

// plus is a + n modulo q.
func plus(a api.Num, n int64) api.Num { return residue(new(big.Int).Add(toBig(a), big.NewInt(n))) }

// mixed are n numbers without a pattern, others for each seed; every third one is q or more.
func mixed(n int, seed uint64) []api.Num {
	l := make([]api.Num, n)
	for i := range l {
		for j := range l[i] {
			seed = seed*6364136223846793005 + 1442695040888963407
			l[i][j] = seed ^ seed>>29
		}
		if i%3 == 2 {
			l[i][3] |= 0xffffffff80000000
		}
	}
	return l
}

// commit is each coefficient times the base, of the library's curve.
func commit(c []api.Num) []api.Point {
	l := make([]api.Point, len(c))
	for i, a := range c {
		x, y := curve.ScalarBaseMult(toBig(residue(toBig(a))).Bytes())
		l[i] = api.Point{X: fromBig(x), Y: fromBig(y)}
		l[i].None = x.Sign() == 0 && y.Sign() == 0
	}
	return l
}

// wrong are points that are none of the curve: they count as None.
func wrong() []api.Point {
	beside, below := base, base
	beside.X[3]++
	below.Y[0]--
	return []api.Point{{}, {X: api.Num{1}}, {X: base.Y, Y: base.X}, beside, below, {X: greatest, Y: greatest}, {X: base.X, Y: base.Y, None: true}}
}

// valueAt is the polynomial at any place, modulo q, with exact powers.
func valueAt(c []api.Num, place int) api.Num {
	sum := new(big.Int)
	for i, a := range c {
		power := new(big.Int).Exp(big.NewInt(int64(place)), big.NewInt(int64(i)), nil)
		sum.Add(sum, power.Mul(power, toBig(a)))
	}
	return residue(sum)
}

func shareAt(c []api.Num, place int) api.Share { return api.Share{At: place, V: valueAt(c, place)} }

func sharesAt(c []api.Num, places ...int) []api.Share {
	var l []api.Share
	for _, place := range places {
		l = append(l, shareAt(c, place))
	}
	return l
}

// altered is the share with another value, which is less than q.
func altered(s api.Share) api.Share { return api.Share{At: s.At, V: plus(s.V, 1)} }

// isRight tells by the coefficients themselves what commitments tell by points.
func isRight(c []api.Num, s api.Share) bool {
	return len(c) > 0 && s.At >= 1 && s.At <= last && toBig(s.V).Cmp(q) < 0 && s.V == valueAt(c, s.At)
}

// plainRight is Right of the commitments to these coefficients.
func plainRight(c []api.Num, l []api.Share) []api.Share {
	var right []api.Share
	taken := map[int]bool{}
	for _, s := range l {
		if isRight(c, s) && !taken[s.At] {
			taken[s.At] = true
			right = append(right, s)
		}
	}
	return right
}

// dealt are polynomials as dealers have them, with one, two and three coefficients, at the edges and without a pattern.
func dealt() [][]api.Num {
	return [][]api.Num{
		{{5}}, {{}}, {order}, {greatest}, mixed(1, 1),
		{{5}, {3}}, {{}, {}}, {near(-1), {1}}, {near(1), order}, mixed(2, 2),
		{{5}, {3}, {2}}, {{}, {}, {1}}, {greatest, near(-1), order}, mixed(3, 3),
	}
}

// orders are all orders of the list.
func orders[T any](l []T) [][]T {
	if len(l) == 0 {
		return [][]T{nil}
	}
	var all [][]T
	for i, first := range l {
		for _, rest := range orders(slices.Concat(l[:i], l[i+1:])) {
			all = append(all, append([]T{first}, rest...))
		}
	}
	return all
}

// The plain count is held against values that another program made of the document's words.
func TestPlainCount(t *testing.T) {
	c, points, shares := made()
	if got := commit(c); !slices.Equal(got, points) {
		t.Errorf("the points are %v", got)
	}
	for _, s := range shares {
		if !isRight(c, s) || isRight(c, altered(s)) {
			t.Errorf("the share at %d is %x", s.At, valueAt(c, s.At))
		}
	}
	if got := commit([]api.Num{{}, {1}, order, near(1)}); !slices.Equal(got, []api.Point{none, base, none, base}) {
		t.Errorf("the points at the edges are %v", got)
	}
	for _, p := range wrong() {
		if !p.None && toBig(p.X).Cmp(curve.Params().P) < 0 && curve.IsOnCurve(toBig(p.X), toBig(p.Y)) {
			t.Errorf("%v is a point of the curve", p)
		}
	}
}

// made are coefficients, their points and some of their shares, all made by another program of the document's words.
func made() ([]api.Num, []api.Point, []api.Share) {
	c := []api.Num{
		num("2eb373a53e6bb668b34bf29314e95ba1938417c0690f8526515c2bf74212de87"),
		num("33748b3600c58b65097d0453f551104e80f9bf65736ec0c04e8c99de3422631e"),
		num("5e0c4621b64ee216416f7c543ab519814e3af935e695e2f924bdc79faa770023"),
	}
	points := []api.Point{
		at("24a4ddb2842874ff5416d60530f936e2d22be952516b9e585da0b70aaf448c2d", "8b6a66bc8d21e7ae9638fa5b769b7ff08828805d6531100fd90d8848ddd37f6b"),
		at("ba9c69aab5441f162e3aa70ff57702e00a2f6195b5db98180632681e207271eb", "5d5e8d2e3172964947cc4c3936b544f8008ff49d509b33be560ab733746bc93d"),
		at("2f2d99f7661bf3481c1f79e02c734352be40f0293314c12ec6457e831740f379", "b2671ce2f89f1ae4d4bc09c37cfd46cde4955f6f94b1ebbc6d682add801c608b"),
	}
	shares := []api.Share{
		{At: 1, V: num("c03444fcf58023e3fe38733b44ef857162b8d05bc31428dfc4a68d7520ac41c8")},
		{At: 2, V: num("dcda29a19325589cc03ec8bea5fe244549586079c15558199f8e8ac5b6d5aad")},
		{At: 3, V: num("177f8c7aa9824b5c1cae5e85053a7219e2e82e1f42424815b8c6d322eb1c73d8")},
		{At: 7, V: num("973caea628ebcc5b7c0ddcfe06caaf8c0e7d6bf44d06783a68bd8a21946ed609")},
		{At: last - 1, V: num("5cfca941052c8fc904ea316744f444b0c7ba6d496e1a2adee9ff4ce2f5ce34d5")},
		{At: last, V: num("46c0168d33066f4a07acd2e866719c361e57ce61397bc2cf7856a402604e7d0e")},
	}
	return c, points, shares
}
