package gather_test

import (
	"crypto/elliptic"
	"math"
	"math/big"
	"math/rand"
	"slices"
	"testing"

	"sandglass/api"
	"sandglass/gather"
)

const (
	top  = math.MaxUint64
	last = 1 << 31 // the last place that may be
)

var (
	curve    = elliptic.P256()
	q        = digits("ffffffff00000000ffffffffffffffffbce6faada7179e84f3b9cac2fc632551")
	order    = fromBig(q)
	greatest = api.Num{top, top, top, top}
	none     = api.Point{None: true}
	base     = at("6b17d1f2e12c4247f8bce6e563a440f277037d812deb33a0f4a13945d898c296", "4fe342e2fe1a7f9b8ee7eb4a7c0f9e162bce33576b315ececbb6406837bf51f5")
)

func digits(hex string) *big.Int {
	n, ok := new(big.Int).SetString(hex, 16)
	if !ok {
		panic(hex)
	}
	return n
}

func num(hex string) api.Num { return fromBig(digits(hex)) }

func at(x, y string) api.Point { return api.Point{X: num(x), Y: num(y)} }

// toBig and fromBig are made of the words alone, so that no layer under the calls judges them.
func toBig(a api.Num) *big.Int {
	n := new(big.Int)
	for i := 3; i >= 0; i-- {
		n.Lsh(n, 64)
		n.Or(n, new(big.Int).SetUint64(a[i]))
	}
	return n
}

func fromBig(n *big.Int) api.Num {
	var a api.Num
	word := new(big.Int).SetUint64(top)
	for i := range a {
		a[i] = new(big.Int).And(new(big.Int).Rsh(n, uint(64*i)), word).Uint64()
	}
	return a
}

// residue is n modulo q, from 0 on, of an n that may be less than 0.
func residue(n *big.Int) api.Num { return fromBig(new(big.Int).Mod(n, q)) }

// near is q + n.
func near(n int64) api.Num { return fromBig(new(big.Int).Add(q, big.NewInt(n))) }

// plus is a + n modulo q.
func plus(a api.Num, n int64) api.Num { return residue(new(big.Int).Add(toBig(a), big.NewInt(n))) }

// rest is a number less than q without a pattern; now and then one at the edges.
func rest(r *rand.Rand) api.Num {
	switch r.Intn(12) {
	case 0:
		return api.Num{}
	case 1:
		return near(-1 - r.Int63n(3))
	}
	return residue(new(big.Int).Rand(r, q))
}

// short is a polynomial of short coefficients, since a long one costs much to multiply by.
func short(r *rand.Rand, coefficients int) []api.Num {
	c := make([]api.Num, coefficients)
	for i := range c {
		c[i] = api.Num{uint64(r.Int63n(1 << 20))}
	}
	return c
}

// long is a polynomial of any coefficients less than q.
func long(r *rand.Rand, coefficients int) []api.Num {
	c := make([]api.Num, coefficients)
	for i := range c {
		c[i] = rest(r)
	}
	return c
}

// farInts are ints at the ends of what an int holds, and such that are near what may be if some of their bits are lost.
func farInts() []int {
	return []int{math.MinInt, math.MinInt + 1, math.MinInt + 2, math.MinInt32, math.MinInt32 + 1, -1<<32 + 1, -256, -255, 256, 257, 258, 1<<16 + 1, math.MaxInt32, 1 << 32, 1<<32 + 1, 1<<32 + 2, math.MaxInt - 1, math.MaxInt}
}

// wrong are points that are none of the curve: they count as None.
func wrong() []api.Point {
	beside, below := base, base
	beside.X[3]++
	below.Y[0]--
	return []api.Point{{}, {X: api.Num{1}}, {X: base.Y, Y: base.X}, beside, below, {X: greatest, Y: greatest}, {X: base.X, Y: base.Y, None: true}, {X: api.Num{1}, None: true}}
}

// counted is what p counts as.
func counted(p api.Point) api.Point {
	if p.None || !curve.IsOnCurve(toBig(p.X), toBig(p.Y)) {
		return none
	}
	return p
}

// ends are a counted point as the library has it, whose None is 0 and 0; fromEnds makes it back.
func ends(p api.Point) (*big.Int, *big.Int) { return toBig(p.X), toBig(p.Y) }

func fromEnds(x, y *big.Int) api.Point {
	return api.Point{X: fromBig(x), Y: fromBig(y), None: x.Sign() == 0 && y.Sign() == 0}
}

func plainAdd(a, b api.Point) api.Point {
	ax, ay := ends(counted(a))
	bx, by := ends(counted(b))
	return fromEnds(curve.Add(ax, ay, bx, by))
}

func plainMul(k *big.Int, p api.Point) api.Point {
	x, y := ends(counted(p))
	return fromEnds(curve.ScalarMult(x, y, new(big.Int).Mod(k, q).Bytes()))
}

func plainBase(a api.Num) api.Point {
	return fromEnds(curve.ScalarBaseMult(new(big.Int).Mod(toBig(a), q).Bytes()))
}

// power is exact.
func power(place, by int) *big.Int {
	return new(big.Int).Exp(big.NewInt(int64(place)), big.NewInt(int64(by)), nil)
}

// valueAt is the polynomial at a place, modulo q.
func valueAt(c []api.Num, place int) api.Num {
	sum := new(big.Int)
	for i, a := range c {
		sum.Add(sum, new(big.Int).Mul(power(place, i), toBig(a)))
	}
	return residue(sum)
}

func shareAt(c []api.Num, place int) api.Share { return api.Share{At: place, V: valueAt(c, place)} }

func sharesAt(c []api.Num, places ...int) []api.Share {
	var l []api.Share
	for _, place := range places {
		l = append(l, shareAt(c, place))
	}
	return l
}

// commit is each coefficient times the base.
func commit(c []api.Num) []api.Point {
	l := make([]api.Point, len(c))
	for i, a := range c {
		l[i] = plainBase(a)
	}
	return l
}

func commits(polys ...[]api.Num) [][]api.Point {
	l := make([][]api.Point, len(polys))
	for i, c := range polys {
		l[i] = commit(c)
	}
	return l
}

// plainVerify tells whether the points bind the dealer to the share.
func plainVerify(points []api.Point, s api.Share) bool {
	if len(points) == 0 || s.At < 1 || s.At > last || toBig(s.V).Cmp(q) >= 0 {
		return false
	}
	sum := none
	for i, p := range points {
		sum = plainAdd(sum, plainMul(power(s.At, i), p))
	}
	return sum == plainBase(s.V)
}

// plainJoin is the polynomial at 0 that goes through these shares, modulo q: the fractions are divided last.
func plainJoin(l []api.Share) *big.Int {
	sum := new(big.Int)
	for _, s := range l {
		over, under := toBig(s.V), big.NewInt(1)
		for _, other := range l {
			if other.At != s.At {
				over.Mul(over, big.NewInt(int64(other.At)))
				under.Mul(under, big.NewInt(int64(other.At-s.At)))
			}
		}
		under.Mod(under, q)
		sum.Add(sum, over.Mul(over, under.ModInverse(under, q)))
	}
	return sum.Mod(sum, q)
}

// plainPublic is the sum of the dealers' first points.
func plainPublic(l [][]api.Point) api.Point {
	sum := none
	for _, points := range l {
		sum = plainAdd(sum, points[0])
	}
	return sum
}

// plainGather is the document's words, played one by one: it keeps the points and all shares.
type plainGather struct {
	t      int
	points [][]api.Point
	shares [][]api.Share
}

func plainNew(t int, points [][]api.Point) *plainGather {
	if t != 0 && t != 1 && t != 2 || len(points) == 0 {
		return nil
	}
	p := &plainGather{t: t}
	for _, l := range points {
		if len(l) != t+1 {
			return nil
		}
		p.points = append(p.points, slices.Clone(l))
		p.shares = append(p.shares, nil)
	}
	return p
}

func (p *plainGather) is(dealer int) bool { return p != nil && dealer >= 0 && dealer < len(p.points) }

func (p *plainGather) put(dealer int, s api.Share) bool {
	if !p.is(dealer) || !plainVerify(p.points[dealer], s) || len(p.shares[dealer]) == p.t+1 {
		return false
	}
	for _, kept := range p.shares[dealer] {
		if kept.At == s.At {
			return false
		}
	}
	p.shares[dealer] = append(p.shares[dealer], s)
	return true
}

func (p *plainGather) have(dealer int) int {
	if !p.is(dealer) {
		return 0
	}
	return len(p.shares[dealer])
}

func (p *plainGather) key() (api.Num, api.Errno) {
	if p == nil {
		return api.Num{}, api.ErrArg
	}
	sum := new(big.Int)
	for _, l := range p.shares {
		if len(l) < p.t+1 {
			return api.Num{}, api.ErrShare
		}
		sum.Add(sum, plainJoin(l))
	}
	return residue(sum), api.OK
}

// pair is a gathering, and the plain one to which the same was done.
type pair struct {
	g *gather.Gather
	p *plainGather
}

// newPair is of these points, which may be.
func newPair(t *testing.T, faults int, points [][]api.Point) pair {
	t.Helper()
	x := pair{gather.New(faults, points), plainNew(faults, points)}
	if x.g == nil || x.p == nil {
		t.Fatalf("t %d, %v: %v, the plain one %v", faults, points, x.g, x.p)
	}
	x.check(t)
	return x
}

// put holds that the share is kept or not, as is wanted, and all that is told behind it.
func (x pair) put(t *testing.T, dealer int, s api.Share, want bool) {
	t.Helper()
	if plain := x.p.put(dealer, s); plain != want {
		t.Errorf("the plain Put of dealer %d, %x at %d is %t", dealer, s.V, s.At, plain)
	}
	if got := x.g.Put(dealer, s); got != want {
		t.Errorf("Put of dealer %d, %x at %d: %t; t %d, had %d", dealer, s.V, s.At, got, x.p.t, x.p.have(dealer))
	}
	x.check(t)
}

// puts puts these, all of which are wanted or not.
func (x pair) puts(t *testing.T, dealer int, l []api.Share, want bool) {
	t.Helper()
	for _, s := range l {
		x.put(t, dealer, s, want)
	}
}

// check holds that all that the gathering tells is what the plain one tells.
func (x pair) check(t *testing.T) {
	t.Helper()
	dealers := append([]int{-2, -1}, farInts()...)
	for dealer := range len(x.p.points) + 2 {
		dealers = append(dealers, dealer)
	}
	for _, dealer := range dealers {
		if got, want := x.g.Have(dealer), x.p.have(dealer); got != want {
			t.Errorf("Have of %d is %d; want %d", dealer, got, want)
		}
	}
	key, err := x.p.key()
	checkKey(t, x.g, key, err)
}

func checkKey(t *testing.T, g *gather.Gather, want api.Num, wantErr api.Errno) {
	t.Helper()
	if got, err := g.Key(); got != want || err != wantErr {
		t.Errorf("Key is %x, %d; want %x, %d", got, err, want, wantErr)
	}
}

func checkHave(t *testing.T, g *gather.Gather, want ...int) {
	t.Helper()
	for dealer, n := range want {
		if got := g.Have(dealer); got != n {
			t.Errorf("Have of %d is %d; want %d", dealer, got, n)
		}
	}
}

// made are coefficients, their points and some of their shares, all made by another program of the document's words.
func made() ([]api.Num, []api.Point, []api.Share) {
	c := []api.Num{
		num("2eb373a53e6bb668b34bf29314e95ba1938417c0690f8526515c2bf74212de87"),
		num("33748b3600c58b65097d0453f551104e80f9bf65736ec0c04e8c99de3422631e"),
		num("5e0c4621b64ee216416f7c543ab519814e3af935e695e2f924bdc79faa770023"),
	}
	points := []api.Point{
		at("24a4ddb2842874ff5416d60530f936e2d22be952516b9e585da0b70aaf448c2d", "8b6a66bc8d21e7ae9638fa5b769b7ff08828805d6531100fd90d8848ddd37f6b"),
		at("ba9c69aab5441f162e3aa70ff57702e00a2f6195b5db98180632681e207271eb", "5d5e8d2e3172964947cc4c3936b544f8008ff49d509b33be560ab733746bc93d"),
		at("2f2d99f7661bf3481c1f79e02c734352be40f0293314c12ec6457e831740f379", "b2671ce2f89f1ae4d4bc09c37cfd46cde4955f6f94b1ebbc6d682add801c608b"),
	}
	shares := []api.Share{
		{At: 1, V: num("c03444fcf58023e3fe38733b44ef857162b8d05bc31428dfc4a68d7520ac41c8")},
		{At: 2, V: num("dcda29a19325589cc03ec8bea5fe244549586079c15558199f8e8ac5b6d5aad")},
		{At: 3, V: num("177f8c7aa9824b5c1cae5e85053a7219e2e82e1f42424815b8c6d322eb1c73d8")},
		{At: 7, V: num("973caea628ebcc5b7c0ddcfe06caaf8c0e7d6bf44d06783a68bd8a21946ed609")},
		{At: last - 1, V: num("5cfca941052c8fc904ea316744f444b0c7ba6d496e1a2adee9ff4ce2f5ce34d5")},
		{At: last, V: num("46c0168d33066f4a07acd2e866719c361e57ce61397bc2cf7856a402604e7d0e")},
	}
	return c, points, shares
}

// The plain play is held against what another program made of the document's words, and against what can be told by heart.
func TestPlainPlay(t *testing.T) {
	c, points, shares := made()
	if got := commit(c); !slices.Equal(got, points) {
		t.Errorf("the points are %v", got)
	}
	for _, s := range shares {
		if valueAt(c, s.At) != s.V || !plainVerify(points, s) || plainVerify(points, api.Share{At: s.At, V: plus(s.V, 1)}) {
			t.Errorf("at %d: %x", s.At, valueAt(c, s.At))
		}
	}
	for _, l := range [][]api.Share{shares[:3], shares[1:4], shares[3:], {shares[5], shares[0], shares[3]}} {
		if got := fromBig(plainJoin(l)); got != c[0] {
			t.Errorf("%v join to %x", l, got)
		}
	}
	if got := plainJoin([]api.Share{{At: 1, V: api.Num{8}}, {At: 2, V: api.Num{11}}}); got.Int64() != 5 {
		t.Errorf("8 and 11 join to %d", got)
	}
	if got := commit([]api.Num{{}, {1}, order, near(1)}); !slices.Equal(got, []api.Point{none, base, none, base}) {
		t.Errorf("the points at the edges are %v", got)
	}
	for _, p := range wrong() {
		if counted(p) != none || plainAdd(p, base) != base || plainAdd(p, p) != none {
			t.Errorf("%v counts", p)
		}
	}
	if plainPublic(commits([]api.Num{{5}, {3}}, []api.Num{{2}, {1}})) != plainBase(api.Num{7}) {
		t.Error("5 and 2 are not 7 times the base")
	}
}
