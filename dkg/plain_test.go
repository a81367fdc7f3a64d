package dkg_test

import (
	"crypto/elliptic"
	"math"
	"math/big"
	"math/rand"
	"slices"
	"testing"

	"sandglass/api"
	"sandglass/dkg"
)

const top = math.MaxUint64

var (
	curve    = elliptic.P256()
	q        = digits("ffffffff00000000ffffffffffffffffbce6faada7179e84f3b9cac2fc632551")
	order    = fromBig(q)
	greatest = api.Num{top, top, top, top}
	none     = api.Point{None: true}
	base     = at("6b17d1f2e12c4247f8bce6e563a440f277037d812deb33a0f4a13945d898c296", "4fe342e2fe1a7f9b8ee7eb4a7c0f9e162bce33576b315ececbb6406837bf51f5")
)

func digits(hex string) *big.Int {
	n, ok := new(big.Int).SetString(hex, 16)
	if !ok {
		panic(hex)
	}
	return n
}

func num(hex string) api.Num { return fromBig(digits(hex)) }

func at(x, y string) api.Point { return api.Point{X: num(x), Y: num(y)} }

// toBig and fromBig are made of the words alone, so that no layer under the calls judges them.
func toBig(a api.Num) *big.Int {
	n := new(big.Int)
	for i := 3; i >= 0; i-- {
		n.Lsh(n, 64)
		n.Or(n, new(big.Int).SetUint64(a[i]))
	}
	return n
}

func fromBig(n *big.Int) api.Num {
	var a api.Num
	word := new(big.Int).SetUint64(top)
	for i := range a {
		a[i] = new(big.Int).And(new(big.Int).Rsh(n, uint(64*i)), word).Uint64()
	}
	return a
}

// residue is n modulo q, from 0 on, of an n that may be less than 0.
func residue(n *big.Int) api.Num { return fromBig(new(big.Int).Mod(n, q)) }

// near is q + n.
func near(n int64) api.Num { return fromBig(new(big.Int).Add(q, big.NewInt(n))) }

// plus is a + n modulo q.
func plus(a api.Num, n int64) api.Num { return residue(new(big.Int).Add(toBig(a), big.NewInt(n))) }

// rest is a number less than q without a pattern; now and then one at the edges.
func rest(r *rand.Rand) api.Num {
	switch r.Intn(12) {
	case 0:
		return api.Num{}
	case 1:
		return near(-1 - r.Int63n(3))
	case 2:
		return api.Num{r.Uint64() % 4}
	}
	return residue(new(big.Int).Rand(r, q))
}

// anyPolys are polynomials as a dealer has them. Of most the coefficients are short, since a long one costs much to multiply by.
func anyPolys(r *rand.Rand, batch, coefficients int) [][]api.Num {
	polys := make([][]api.Num, batch)
	for i := range polys {
		polys[i] = make([]api.Num, coefficients)
		long := r.Intn(4) == 0
		for k := range polys[i] {
			polys[i][k] = api.Num{uint64(r.Int63n(1 << 30))}
			if long {
				polys[i][k] = rest(r)
			}
		}
	}
	return polys
}

// farInts are ints at the ends of what an int holds, and such that are near what may be if some of their bits are lost.
func farInts() []int {
	return []int{math.MinInt, math.MinInt + 1, math.MinInt + 4, math.MinInt32, math.MinInt32 + 1, -1<<32 + 1, -256, -255, 256, 257, 260, 1<<16 + 1, math.MaxInt32, 1<<32 + 1, 1<<32 + 4, math.MaxInt - 1, math.MaxInt}
}

// committees are all n with all t that may be, written out.
func committees() [][2]int {
	return [][2]int{{1, 0}, {2, 0}, {3, 0}, {4, 0}, {5, 0}, {6, 0}, {7, 0}, {4, 1}, {5, 1}, {6, 1}, {7, 1}, {7, 2}}
}

func mayBe(n, t int) bool { return slices.Contains(committees(), [2]int{n, t}) }

// wrong are points that are none of the curve: they count as None.
func wrong() []api.Point {
	beside, below := base, base
	beside.X[3]++
	below.Y[0]--
	return []api.Point{{}, {X: api.Num{1}}, {X: base.Y, Y: base.X}, beside, below, {X: greatest, Y: greatest}, {X: base.X, Y: base.Y, None: true}, {X: api.Num{1}, None: true}}
}

// counted is what p counts as.
func counted(p api.Point) api.Point {
	if p.None || !curve.IsOnCurve(toBig(p.X), toBig(p.Y)) {
		return none
	}
	return p
}

// ends are a counted point as the library has it, whose None is 0 and 0; fromEnds makes it back.
func ends(p api.Point) (*big.Int, *big.Int) { return toBig(p.X), toBig(p.Y) }

func fromEnds(x, y *big.Int) api.Point {
	return api.Point{X: fromBig(x), Y: fromBig(y), None: x.Sign() == 0 && y.Sign() == 0}
}

func plainAdd(a, b api.Point) api.Point {
	ax, ay := ends(counted(a))
	bx, by := ends(counted(b))
	return fromEnds(curve.Add(ax, ay, bx, by))
}

func plainMul(k *big.Int, p api.Point) api.Point {
	x, y := ends(counted(p))
	return fromEnds(curve.ScalarMult(x, y, new(big.Int).Mod(k, q).Bytes()))
}

func plainBase(a api.Num) api.Point {
	return fromEnds(curve.ScalarBaseMult(new(big.Int).Mod(toBig(a), q).Bytes()))
}

// opposite is the point that makes None with p, which is on the curve and not None.
func opposite(p api.Point) api.Point {
	return api.Point{X: p.X, Y: fromBig(new(big.Int).Sub(curve.Params().P, toBig(p.Y)))}
}

// power is exact.
func power(place, by int) *big.Int {
	return new(big.Int).Exp(big.NewInt(int64(place)), big.NewInt(int64(by)), nil)
}

// plainValue is the polynomial at a place that is not below 0, modulo q.
func plainValue(c []api.Num, place int) api.Num {
	sum := new(big.Int)
	for i, a := range c {
		sum.Add(sum, new(big.Int).Mul(power(place, i), toBig(a)))
	}
	return residue(sum)
}

func plainCommit(c []api.Num) []api.Point {
	l := make([]api.Point, len(c))
	for i, a := range c {
		l[i] = plainBase(a)
	}
	return l
}

// plainVerify tells whether the points bind the dealer to the value at the place, which is 1 or more.
func plainVerify(c []api.Point, place int, v api.Num) bool {
	if len(c) == 0 || toBig(v).Cmp(q) >= 0 {
		return false
	}
	sum := none
	for i, p := range c {
		sum = plainAdd(sum, plainMul(power(place, i), p))
	}
	return sum == plainBase(v)
}

// dealt is the deal of these polynomials to n nodes, whatever they are.
func dealt(n int, polys [][]api.Num) api.Deal {
	var d api.Deal
	for _, c := range polys {
		d.Commits = append(d.Commits, plainCommit(c))
	}
	for node := 1; node <= n; node++ {
		var l []api.Num
		for _, c := range polys {
			l = append(l, plainValue(c, node))
		}
		d.Values = append(d.Values, l)
	}
	return d
}

func plainDeals(n, t int, polys [][]api.Num) (api.Deal, api.Errno) {
	if !mayBe(n, t) || len(polys) == 0 || len(polys) > 4 {
		return api.Deal{}, api.ErrArg
	}
	for _, c := range polys {
		if len(c) != t+1 || slices.ContainsFunc(c, func(a api.Num) bool { return toBig(a).Cmp(q) >= 0 }) {
			return api.Deal{}, api.ErrArg
		}
	}
	return dealt(n, polys), api.OK
}

func plainCheck(n, t int, d api.Deal, node int) bool {
	if !mayBe(n, t) || node < 1 || node > n || len(d.Commits) == 0 || len(d.Commits) > 4 || len(d.Values) != n {
		return false
	}
	mine := d.Values[node-1]
	is := len(mine) == len(d.Commits)
	for i, c := range d.Commits {
		is = is && len(c) == t+1 && plainVerify(c, node, mine[i])
	}
	return is
}

func plainChosen(t int, acks [][]bool) []int {
	need := map[int]int{0: 1, 1: 3, 2: 5}[t]
	var l []int
	for i, nodes := range acks {
		is := 0
		for _, ack := range nodes {
			is += map[bool]int{true: 1}[ack]
		}
		if need > 0 && is >= need {
			l = append(l, i+1)
		}
	}
	return l
}

func isThere(l []api.Deal, dealer int) bool { return dealer >= 1 && dealer <= len(l) }

func plainKeys(l []api.Deal, chosen []int) []api.Point {
	if len(chosen) == 0 || !isThere(l, chosen[0]) {
		return nil
	}
	var keys []api.Point
	for epoch := range l[chosen[0]-1].Commits {
		key := none
		for _, dealer := range chosen {
			if isThere(l, dealer) && epoch < len(l[dealer-1].Commits) && len(l[dealer-1].Commits[epoch]) > 0 {
				key = plainAdd(key, l[dealer-1].Commits[epoch][0])
			}
		}
		keys = append(keys, key)
	}
	return keys
}

func plainMine(l []api.Deal, chosen []int, epoch, node int) ([]api.Num, api.Errno) {
	var values []api.Num
	for _, dealer := range chosen {
		if !isThere(l, dealer) || node < 1 || node > len(l[dealer-1].Values) || epoch < 0 || epoch >= len(l[dealer-1].Values[node-1]) {
			return nil, api.ErrArg
		}
		values = append(values, l[dealer-1].Values[node-1][epoch])
	}
	return values, api.OK
}

// sameLists tells whether the lists hold the same; empty and nil are the same.
func sameLists[T comparable](a, b [][]T) bool { return slices.EqualFunc(a, b, slices.Equal) }

func sameDeal(a, b api.Deal) bool {
	return sameLists(a.Commits, b.Commits) && sameLists(a.Values, b.Values)
}

// checkDeals holds a call against the plain count, and answers what was dealt.
func checkDeals(t *testing.T, n, wrong int, polys [][]api.Num) (api.Deal, api.Errno) {
	t.Helper()
	want, wantErr := plainDeals(n, wrong, polys)
	got, err := dkg.Deals(n, wrong, polys)
	if err != wantErr || !sameDeal(got, want) {
		t.Errorf("Deals of n %d, t %d, %v: %v, %d; want %v, %d", n, wrong, polys, got, err, want, wantErr)
	}
	return got, err
}

// checkDealsErr holds that these are refused, by what the document says alone.
func checkDealsErr(t *testing.T, n, wrong int, polys [][]api.Num) {
	t.Helper()
	got, err := checkDeals(t, n, wrong, polys)
	if err != api.ErrArg || len(got.Commits) != 0 || len(got.Values) != 0 {
		t.Errorf("Deals of n %d, t %d, %v: %v, %d; want nothing, ErrArg", n, wrong, polys, got, err)
	}
}

// checkCheck holds a call against what it should be, and that against the plain count.
func checkCheck(t *testing.T, n, wrong int, d api.Deal, node int, want bool) {
	t.Helper()
	if plain := plainCheck(n, wrong, d, node); plain != want {
		t.Errorf("the plain count of n %d, t %d, %v, node %d is %t", n, wrong, d, node, plain)
	}
	if got := dkg.Check(n, wrong, d, node); got != want {
		t.Errorf("Check of n %d, t %d, %v, node %d: %t", n, wrong, d, node, got)
	}
}

func checkChosen(t *testing.T, wrong int, acks [][]bool, want ...int) {
	t.Helper()
	if plain := plainChosen(wrong, acks); !slices.Equal(plain, want) {
		t.Errorf("the plain count of t %d, %t is %d", wrong, acks, plain)
	}
	if got := dkg.Chosen(wrong, acks); !slices.Equal(got, want) {
		t.Errorf("Chosen of t %d, %t: %d; want %d", wrong, acks, got, want)
	}
}

func checkKeys(t *testing.T, l []api.Deal, chosen []int, want ...api.Point) {
	t.Helper()
	if plain := plainKeys(l, chosen); !slices.Equal(plain, want) {
		t.Errorf("the plain count of %d of %d is %v", chosen, len(l), plain)
	}
	if got := dkg.Keys(l, chosen); !slices.Equal(got, want) {
		t.Errorf("Keys of %d of %d: %v; want %v", chosen, len(l), got, want)
	}
}

func checkMine(t *testing.T, l []api.Deal, chosen []int, epoch, node int, want ...api.Num) {
	t.Helper()
	plain, plainErr := plainMine(l, chosen, epoch, node)
	if !slices.Equal(plain, want) || plainErr != api.OK {
		t.Errorf("the plain count of %d, epoch %d, node %d is %v, %d", chosen, epoch, node, plain, plainErr)
	}
	got, err := dkg.Mine(l, chosen, epoch, node)
	if !slices.Equal(got, want) || err != api.OK {
		t.Errorf("Mine of %d, epoch %d, node %d: %v, %d; want %v", chosen, epoch, node, got, err, want)
	}
}

func checkMineErr(t *testing.T, l []api.Deal, chosen []int, epoch, node int) {
	t.Helper()
	if _, err := plainMine(l, chosen, epoch, node); err != api.ErrArg {
		t.Errorf("the plain count of %d, epoch %d, node %d is %d", chosen, epoch, node, err)
	}
	if got, err := dkg.Mine(l, chosen, epoch, node); err != api.ErrArg || len(got) != 0 {
		t.Errorf("Mine of %d, epoch %d, node %d: %v, %d; want nothing, ErrArg", chosen, epoch, node, got, err)
	}
}

// copyOf is a deal that shares no memory with d.
func copyOf(d api.Deal) api.Deal {
	c := api.Deal{Commits: slices.Clone(d.Commits), Values: slices.Clone(d.Values)}
	for i, l := range c.Commits {
		c.Commits[i] = slices.Clone(l)
	}
	for i, l := range c.Values {
		c.Values[i] = slices.Clone(l)
	}
	return c
}

// changed is a copy of the deal, with that done to it.
func changed(d api.Deal, change func(*api.Deal)) api.Deal {
	c := copyOf(d)
	change(&c)
	return c
}

// made are coefficients, their points and their values at 1, 2, 3 and 7, all made by another program of the document's words.
func made() ([]api.Num, []api.Point, map[int]api.Num) {
	c := []api.Num{
		num("2eb373a53e6bb668b34bf29314e95ba1938417c0690f8526515c2bf74212de87"),
		num("33748b3600c58b65097d0453f551104e80f9bf65736ec0c04e8c99de3422631e"),
		num("5e0c4621b64ee216416f7c543ab519814e3af935e695e2f924bdc79faa770023"),
	}
	points := []api.Point{
		at("24a4ddb2842874ff5416d60530f936e2d22be952516b9e585da0b70aaf448c2d", "8b6a66bc8d21e7ae9638fa5b769b7ff08828805d6531100fd90d8848ddd37f6b"),
		at("ba9c69aab5441f162e3aa70ff57702e00a2f6195b5db98180632681e207271eb", "5d5e8d2e3172964947cc4c3936b544f8008ff49d509b33be560ab733746bc93d"),
		at("2f2d99f7661bf3481c1f79e02c734352be40f0293314c12ec6457e831740f379", "b2671ce2f89f1ae4d4bc09c37cfd46cde4955f6f94b1ebbc6d682add801c608b"),
	}
	values := map[int]api.Num{
		1: num("c03444fcf58023e3fe38733b44ef857162b8d05bc31428dfc4a68d7520ac41c8"),
		2: num("dcda29a19325589cc03ec8bea5fe244549586079c15558199f8e8ac5b6d5aad"),
		3: num("177f8c7aa9824b5c1cae5e85053a7219e2e82e1f42424815b8c6d322eb1c73d8"),
		7: num("973caea628ebcc5b7c0ddcfe06caaf8c0e7d6bf44d06783a68bd8a21946ed609"),
	}
	return c, points, values
}

// The plain count is held against what another program made of the document's words, and against what can be told by heart.
func TestPlainCount(t *testing.T) {
	c, points, values := made()
	if got := plainCommit(c); !slices.Equal(got, points) {
		t.Errorf("the points are %v", got)
	}
	for place, v := range values {
		if plainValue(c, place) != v || !plainVerify(points, place, v) || plainVerify(points, place, plus(v, 1)) {
			t.Errorf("at %d: %v", place, plainValue(c, place))
		}
	}
	if got := plainCommit([]api.Num{{}, {1}, order, near(1), near(-1)}); !slices.Equal(got, []api.Point{none, base, none, base, opposite(base)}) {
		t.Errorf("the points at the edges are %v", got)
	}
	for _, p := range wrong() {
		if counted(p) != none || plainAdd(p, base) != base || plainAdd(p, p) != none {
			t.Errorf("%v counts", p)
		}
	}
	if plainAdd(base, opposite(base)) != none || plainAdd(base, base) != plainBase(api.Num{2}) {
		t.Error("a sum is another one")
	}
	d := dealt(4, [][]api.Num{{{5}, {3}}, {{7}, {1}}})
	if !sameLists(d.Values, [][]api.Num{{{8}, {8}}, {{11}, {9}}, {{14}, {10}}, {{17}, {11}}}) {
		t.Errorf("the values are %v", d.Values)
	}
	for node := range 7 {
		if got := plainCheck(4, 1, d, node); got != (node >= 1 && node <= 4) {
			t.Errorf("the plain count at node %d is %t", node, got)
		}
	}
}

// 25.1: the document's example.
func TestExample(t *testing.T) {
	for _, c := range [][]api.Num{{{5}, {3}}, {{1}, {}}, {near(-1), {9}}} {
		d, err := dkg.Deals(4, 1, [][]api.Num{c})
		if err != api.OK {
			t.Fatal(err)
		}
		checkKeys(t, []api.Deal{d}, []int{1}, plainBase(c[0]))
	}
	checkKeys(t, []api.Deal{dealt(4, [][]api.Num{{{1}, {3}}})}, []int{1}, base)
}
