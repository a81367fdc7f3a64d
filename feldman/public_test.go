package feldman_test

import (
	"math/big"
	"slices"
	"testing"

	"sandglass/api"
	"sandglass/feldman"
)

// 14.1: no list, and lists that are empty, add nothing.
func TestPublicNothing(t *testing.T) {
	some := [][]api.Point{{base}, {far}}
	for _, l := range [][][]api.Point{nil, {}, some[:0], {nil}, {{}}, {some[0][:0]}, {nil, {}, nil}, slices.Repeat([][]api.Point{{}}, 100)} {
		checkPoint(t, "Public of nothing", feldman.Public(l), none)
	}
	for i := range 4 {
		l := [][]api.Point{{}, nil, {}}
		l = slices.Insert(l, i, []api.Point{far, base})
		checkPoint(t, "Public with empty lists", feldman.Public(l), far)
	}
}

// 14.1: the first points are summed, and no other ones.
func TestPublic(t *testing.T) {
	t.Parallel()
	for _, x := range []struct {
		l    [][]api.Point
		want api.Point
	}{
		{[][]api.Point{{base}}, base},
		{[][]api.Point{{none}}, none},
		{[][]api.Point{{none, base}}, none},
		{[][]api.Point{{far, base, upright}}, far},
		{[][]api.Point{{base}, {base}}, opposite(back)},
		{[][]api.Point{{base}, {base}, {back}}, none},
		{[][]api.Point{{base, far}, {opposite(base), upright}}, none},
		{[][]api.Point{{opposite(upright)}, {far}, {}, {upright}}, far},
		{[][]api.Point{{base, base}, {none, far}, {opposite(base)}, {upright, base}}, upright},
		{
			[][]api.Point{{upright, base}, {far}, nil, {back, back}},
			at("13526f410b070d5cb0bfccac52cda9db1af90bb604349e10f778dc43bfd276e3", "c8e2c9babe09240d99076c814d4535e875dbe15513806e932d16f36f440bbcc5"),
		},
	} {
		checkPoint(t, "Public", feldman.Public(x.l), x.want)
		slices.Reverse(x.l)
		checkPoint(t, "Public of the lists reversed", feldman.Public(x.l), x.want)
	}
}

// 14.1: points that are none count as None: the one behind them does not stand in for them.
func TestPublicWrong(t *testing.T) {
	t.Parallel()
	for _, p := range append(wrong(), none) {
		checkPoint(t, "Public of one", feldman.Public([][]api.Point{{p}}), none)
		checkPoint(t, "Public of one with more", feldman.Public([][]api.Point{{p, base}}), none)
		checkPoint(t, "Public of two", feldman.Public([][]api.Point{{p}, {p}}), none)
		for i := range 4 {
			l := [][]api.Point{{far}, {base, far}, {back}}
			l = slices.Insert(l, i, []api.Point{p, upright})
			checkPoint(t, "Public of many", feldman.Public(l), plainMul(big.NewInt(123456788), base))
		}
		checkPoint(t, "Public of a list that goes on so", feldman.Public([][]api.Point{{far, p}}), far)
	}
}

// 14.1: it is the sum of the first coefficients times the base.
func TestPublicOfCommit(t *testing.T) {
	t.Parallel()
	var l [][]api.Point
	sum := new(big.Int)
	for _, c := range polynomials() {
		l = append(l, feldman.Commit(c))
		if len(c) > 0 {
			sum.Add(sum, toBig(c[0]))
		}
		checkPoint(t, "Public", feldman.Public(l), plainMul(sum, base))
	}
}

// 14.1: many lists.
func TestPublicMany(t *testing.T) {
	t.Parallel()
	const n = 2000
	l := slices.Repeat([][]api.Point{{base, far}, {}}, n)
	checkPoint(t, "Public", feldman.Public(l), plainMul(big.NewInt(n), base))
}
