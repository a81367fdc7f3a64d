package shamir_test

import (
	"math"
	"math/big"
	"slices"
	"testing"

	"sandglass/api"
	"sandglass/shamir"
)

// fitting are lists of places that may be: one, two and many, in rising and in other orders.
func fitting() [][]int {
	l := [][]int{
		{1}, {2}, {7}, {last}, {last - 1},
		{1, 2}, {2, 1}, {1, 3}, {1, last}, {last, 1}, {last - 1, last}, {last, last - 1}, {last / 2, last},
		{1, 2, 3}, {3, 1, 2}, {5, 9, 4, last, 1}, {7, 6, 5, 4, 3, 2, 1}, {100, 3, 77, 1 << 20, 2, last, 1 << 30},
		rising(7), rising(8), rising(64), scattered(20), scattered(100),
	}
	back := rising(20)
	slices.Reverse(back)
	sorted := scattered(50)
	slices.Sort(sorted)
	return append(l, back, sorted)
}

// unfit are lists of places that may not be.
func unfit() [][]int {
	l := [][]int{nil, {}, {1, 1}, {7, 7}, {last, last}, {1, 2, 1}, {2, 1, 1}, {1, 1, 2}, {3, 3, 3}, {5, 2, 9, 4, 5}, {last, 2, 9, last}}
	for _, place := range []int{0, -1, -2, -last, math.MinInt + 1, math.MinInt, last + 1, last + 2, math.MaxUint32, 1 << 32, 1<<32 + 1, math.MaxInt - 1, math.MaxInt} {
		l = append(l, []int{place}, []int{place, 1}, []int{1, place}, []int{1, place, 2}, []int{3, 2, 1, place}, []int{place, place}, []int{place, last})
	}
	l = append(l, []int{0, math.MaxInt}, []int{math.MinInt, math.MaxInt})
	for _, n := range []int{2, 3, 8, 100} {
		many := scattered(n)
		for _, i := range []int{0, n / 2, n - 2} {
			side := slices.Insert(slices.Clone(many), i, many[i])
			l = append(l, side, append(slices.Clone(many), many[i]), append([]int{many[n-1-i]}, many...))
		}
	}
	return l
}

func checkWeights(t *testing.T, at []int, want []api.Num) {
	t.Helper()
	if got, err := shamir.Weights(at); err != api.OK || !slices.Equal(got, want) {
		t.Errorf("weights of %d: %x, %d; want %x", at, got, err, want)
	}
}

func checkJoin(t *testing.T, l []api.Share, want api.Num) {
	t.Helper()
	if got, err := shamir.Join(l); err != api.OK || got != want {
		t.Errorf("%x join to %x, %d; want %x", l, got, err, want)
	}
}

// 13.1: Weights against a plain count.
func TestWeights(t *testing.T) {
	for _, at := range fitting() {
		checkWeights(t, at, plainWeights(at))
	}
}

// 13.1: weights that another program made of the document's words.
func TestWeightsValues(t *testing.T) {
	for _, x := range []struct {
		at   []int
		want []api.Num
	}{
		{[]int{1}, []api.Num{{1}}},
		{[]int{7}, []api.Num{{1}}},
		{[]int{last}, []api.Num{{1}}},
		{[]int{2, 1}, []api.Num{near(-1), {2}}},
		{[]int{1, 2, 3}, []api.Num{{3}, near(-3), {1}}},
		{[]int{3, 1, 2}, []api.Num{{1}, {3}, near(-3)}},
		{rising(7), []api.Num{{7}, near(-21), {35}, near(-35), {21}, near(-7), {1}}},
		{[]int{last - 1, last}, []api.Num{{last}, near(1 - last)}},
		{[]int{1, 3}, []api.Num{
			num("7fffffff800000007fffffffffffffffde737d56d38bcf4279dce5617e3192aa"),
			num("7fffffff800000007fffffffffffffffde737d56d38bcf4279dce5617e3192a8"),
		}},
		{[]int{1, last}, []api.Num{
			num("7cead5587cead55976c0800aed810015ba4454cdd22b7db306eedded33ea6394"),
			num("83152aa683152aa7893f7ff5127effea02a2a5dfd4ec20d1eccaecd5c878c1be"),
		}},
		{[]int{5, 9, 4, last, 1}, []api.Num{
			num("b0484678328a7a40a9b10cf8a0ea81b61af4ebf438af902f11acdb571b4952cb"),
			num("3984199bd1c5b35cf96ab6218980ce5b9bfb50a59b09e28ac20512717634f0d4"),
			num("a339224c768ff01c57b8a32abdc51955c360e2bc4b56e51b6f32f716fee3f7e7"),
			num("8c22d971ae79240c682a9a69a7db66f20b0345a189928c7716bb5eb253e2710"),
			num("6a3850066a3850073ea8f0147d51e028decca1ab1685bc6d3322fabb4325e80d"),
		}},
	} {
		checkWeights(t, x.at, x.want)
	}
}

// 13.1: each weight stands where its place does, in whatever order.
func TestWeightsOrders(t *testing.T) {
	for _, at := range orders([]int{1, 4, 5, last, 77}) {
		checkWeights(t, at, plainWeights(at))
	}
}

// 13.1: ErrArg, and nothing beside it.
func TestWeightsRefused(t *testing.T) {
	for _, at := range unfit() {
		if got, err := shamir.Weights(at); err != api.ErrArg || len(got) != 0 {
			t.Errorf("weights of %d: %x, %d", at, got, err)
		}
	}
}

// 13.1: Join's error is that of Weights, whatever the values are.
func TestJoinRefused(t *testing.T) {
	values := append(edges(), mixed(5, 6)...)
	for _, at := range unfit() {
		for i := range values {
			l := withValues(at, values[i:])
			if got, err := shamir.Join(l); err != api.ErrArg || got != (api.Num{}) {
				t.Errorf("%x join to %x, %d", l, got, err)
			}
		}
	}
	same := []api.Share{{At: 2, V: api.Num{11}}, {At: 1, V: api.Num{8}}, {At: 2, V: api.Num{11}}}
	if got, err := shamir.Join(same); err != api.ErrArg || got != (api.Num{}) {
		t.Errorf("one share twice: %x, %d", got, err)
	}
}

// 13.1: Join of any values, of q and more too, against the plain sum.
func TestJoin(t *testing.T) {
	for _, at := range fitting() {
		for _, v := range edges() {
			l := withValues(at, []api.Num{v})
			checkJoin(t, l, plainJoin(l))
		}
		for i := range edges() {
			l := withValues(at, append(edges()[i:], edges()[:i]...))
			checkJoin(t, l, plainJoin(l))
		}
		l := withValues(at, mixed(len(at), uint64(at[0])))
		checkJoin(t, l, plainJoin(l))
	}
}

// 13.1: a single share's weight is 1, so that its value is left, modulo q.
func TestJoinOne(t *testing.T) {
	for _, at := range []int{1, 2, 7, last - 1, last} {
		for _, v := range append(edges(), mixed(6, 7)...) {
			checkJoin(t, []api.Share{{At: at, V: v}}, residue(toBig(v)))
		}
	}
}

// 13.2: as many Shares as there are coefficients, and more of them, join to the first coefficient; whichever they are.
func TestJoinShares(t *testing.T) {
	for n := 1; n <= api.MaxNodes; n++ {
		for i, secret := range append(edges(), mixed(3, 8)...) {
			c := append([]api.Num{secret}, mixed(n-1, uint64(i))...)
			want := residue(toBig(secret))
			for _, some := range subsets(shamir.Shares(c, api.MaxNodes)) {
				if len(some) >= n {
					checkJoin(t, some, want)
				}
			}
		}
	}
}

// 13.2: the coefficients may be at the edges, too, all of them.
func TestJoinEdges(t *testing.T) {
	for _, a := range edges() {
		for _, b := range edges() {
			for _, d := range edges() {
				l := shamir.Shares([]api.Num{a, b, d}, api.MaxNodes)
				want := residue(toBig(a))
				checkJoin(t, l[:3], want)
				checkJoin(t, []api.Share{l[6], l[0], l[4]}, want)
				checkJoin(t, l, want)
			}
		}
	}
}

// 13.2: the order of the shares has no say.
func TestJoinOrders(t *testing.T) {
	c := mixed(5, 9)
	for _, at := range orders([]int{1, 3, 4, 6, 7}) {
		checkJoin(t, sharesAt(c, at), residue(toBig(c[0])))
	}
}

// 13.2: at any places, of as many shares as there are coefficients and of more.
func TestJoinPlaces(t *testing.T) {
	for _, at := range fitting() {
		for n := 1; n <= min(len(at), 20); n++ {
			c := mixed(n, uint64(n))
			var l []api.Share
			for _, place := range at {
				l = append(l, api.Share{At: place, V: shamir.Eval(c, place)})
			}
			checkJoin(t, l[:n], residue(toBig(c[0])))
			checkJoin(t, l[len(l)-n:], residue(toBig(c[0])))
			checkJoin(t, l, residue(toBig(c[0])))
		}
	}
}

// T6: t shares go with any secret: there is a last share with which they join to it, and the polynomial through all of them has these shares and that secret.
func TestSharesTellNothing(t *testing.T) {
	for _, at := range [][]int{{3, 1}, {1, 2, 3}, {last, 5, 9}, rising(7)} {
		shares := sharesAt(mixed(len(at), 10), at)
		for _, secret := range append(edges(), mixed(3, 11)...) {
			want := residue(toBig(secret))
			l := slices.Clone(shares)
			l[len(l)-1].V = fits(l, want)
			checkJoin(t, l, want)
			c := through(l)
			for _, s := range l {
				if got := shamir.Eval(c, s.At); got != s.V {
					t.Errorf("%x at %d: %x; want %x", c, s.At, got, s.V)
				}
			}
			if got := shamir.Eval(c, 0); got != want {
				t.Errorf("%x at 0: %x; want %x", c, got, want)
			}
		}
	}
}

// fits is the value of the last share with which all join to the secret.
func fits(l []api.Share, secret api.Num) api.Num {
	rest := slices.Clone(l)
	rest[len(l)-1].V = api.Num{}
	missing := new(big.Int).Sub(toBig(secret), toBig(plainJoin(rest)))
	weight := toBig(plainWeights(placesOf(l))[len(l)-1])
	return residue(missing.Mul(missing, weight.ModInverse(weight, q)))
}

// through are the coefficients of the polynomial that has these shares, one for each.
func through(l []api.Share) []api.Num {
	sum := make([]*big.Int, len(l))
	for i := range sum {
		sum[i] = new(big.Int)
	}
	for i, s := range l {
		// The polynomial that is 0 at all places but this one, and there the share's value.
		factor := toBig(s.V)
		row := []*big.Int{big.NewInt(1)}
		for j, other := range l {
			if j != i {
				row = timesRoot(row, int64(other.At))
				distance := big.NewInt(int64(s.At) - int64(other.At))
				factor.Mul(factor, distance.ModInverse(distance.Mod(distance, q), q))
			}
		}
		for j := range row {
			sum[j].Add(sum[j], row[j].Mul(row[j], factor))
		}
	}
	c := make([]api.Num, len(l))
	for i := range sum {
		c[i] = residue(sum[i])
	}
	return c
}

// timesRoot is the polynomial times x - root.
func timesRoot(row []*big.Int, root int64) []*big.Int {
	l := make([]*big.Int, len(row)+1)
	l[0] = new(big.Int)
	for i, a := range row {
		l[i+1] = a
	}
	for i, a := range row {
		l[i] = new(big.Int).Sub(l[i], new(big.Int).Mul(a, big.NewInt(root)))
	}
	return l
}
