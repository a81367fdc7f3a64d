package feldman_test

import (
	"math"
	"math/big"
	"slices"
	"testing"

	"sandglass/api"
	"sandglass/feldman"
)

func checkPoint(t *testing.T, name string, got, want api.Point) {
	t.Helper()
	if got != want {
		t.Errorf("%s: %v; want %v", name, got, want)
	}
}

func checkEval(t *testing.T, c []api.Point, place int, want api.Point) {
	t.Helper()
	if got := feldman.Eval(c, place); got != want {
		t.Errorf("%v at %d: %v; want %v", c, place, got, want)
	}
}

// places are some that Eval may be asked at, the edges among them.
func places() []int { return []int{0, 1, 2, 7, last, math.MaxInt} }

// below are places that count as 0.
func below() []int { return []int{-1, -2, -7, -last, math.MinInt + 1, math.MinInt} }

// pointLists have no point, one, two and many, with None, points that are none and opposite ones among them.
func pointLists() [][]api.Point {
	l := [][]api.Point{
		nil, {}, {none}, {base}, {upright}, {far}, {back},
		{base, base}, {base, far}, {far, base}, {none, base}, {base, none}, {none, none}, {none, none, upright}, {base, none, back},
		{base, opposite(base)}, {upright, far, opposite(upright)}, {far, upright, opposite(upright), base}, {opposite(far), far, far},
		{back, base}, {base, upright, far, back, none, opposite(upright), base, far},
	}
	for i, p := range wrong() {
		l = append(l, []api.Point{p}, []api.Point{p, base}, []api.Point{base, p}, slices.Insert([]api.Point{far, upright, base}, i%4, p))
	}
	return append(l, wrong(), slices.Repeat([]api.Point{upright, none, far, wrong()[4], back}, 4))
}

// 14.1: Commit, each coefficient times the base.
func TestCommit(t *testing.T) {
	t.Parallel()
	for i, c := range polynomials() {
		if got, want := feldman.Commit(c), plainCommit(c); !slices.Equal(got, want) {
			t.Errorf("polynomial %d: %v; want %v", i, got, want)
		}
	}
}

// 14.1: the edges of numbers: they count modulo q.
func TestCommitEdges(t *testing.T) {
	t.Parallel()
	c := []api.Num{{}, {1}, {2}, near(-2), near(-1), order, near(1), near(2), {123456789}, greatest}
	want := []api.Point{
		none, base, opposite(back), back, opposite(base), none, base, opposite(back), far,
		at("f72cbd240e26c0d21b1023179586eb532c6102c49c3677cc1a3d132b9db9d31a", "43e4ca77e2a36621dc0dbd91bfe7a5d223250ef0cdca831ee453d93fa83408a7"),
	}
	if got := feldman.Commit(c); !slices.Equal(got, want) {
		t.Errorf("%v; want %v", got, want)
	}
	slices.Reverse(c)
	slices.Reverse(want)
	if got := feldman.Commit(c); !slices.Equal(got, want) {
		t.Errorf("reversed: %v; want %v", got, want)
	}
}

// 14.1: each point stands where its coefficient does, in a long list too.
func TestCommitMany(t *testing.T) {
	t.Parallel()
	c := make([]api.Num, 500)
	for i := range c {
		c[i] = api.Num{uint64(i)}
	}
	got, want := feldman.Commit(c), none
	if len(got) != len(c) {
		t.Fatalf("%d points", len(got))
	}
	for _, p := range got {
		checkPoint(t, "Commit", p, want)
		want = plainAdd(want, base)
	}
}

// 14.1: Eval against a plain count with exact powers.
func TestEval(t *testing.T) {
	t.Parallel()
	for _, c := range pointLists() {
		for _, place := range places() {
			checkEval(t, c, place, plainEval(c, place))
		}
	}
}

// 14.1: Eval against sums that are repeated one by one.
func TestEvalRepeated(t *testing.T) {
	t.Parallel()
	for _, c := range pointLists() {
		c = c[:min(len(c), 4)]
		for place := range 8 {
			sum := none
			for i, p := range c {
				for range power(place, i).Int64() {
					sum = plainAdd(sum, p)
				}
			}
			checkEval(t, c, place, sum)
		}
	}
}

// 14.1: at 0 the first point is left, since the 0th power is 1, and below 0 it is as at 0.
func TestEvalBelow(t *testing.T) {
	t.Parallel()
	for _, c := range pointLists() {
		want := none
		if len(c) > 0 {
			want = counted(c[0])
		}
		for _, place := range append(below(), 0) {
			checkEval(t, c, place, want)
		}
	}
}

// 14.1: no point sums to None, wherever.
func TestEvalNothing(t *testing.T) {
	for _, place := range append(below(), places()...) {
		for _, c := range [][]api.Point{nil, {}, {base, far}} {
			checkEval(t, c[:0], place, none)
		}
	}
}

// 14.1: values that another program made of the document's words.
func TestEvalValues(t *testing.T) {
	t.Parallel()
	for _, x := range []struct {
		c     []api.Point
		place int
		want  api.Point
	}{
		{[]api.Point{upright, upright, upright}, 2, at("49797b6d5cf67403b3391dac60048fde27bb3c99006b857c0b4f7315ccd1dabd", "cbaeaccc17394e417f231243dc178d5e156dd02fa3caa59250a3268b2361613f")},
		{[]api.Point{back, upright}, last, at("cb462b0ad77ab2a7cc968f50c1dc187c0e1c58e0bd9e2ae10c91f1bd1494270c", "eb1613ab472b6d2f1d61d3d111a2628f74c1f262fd55d470382fee31d6d92043")},
		{[]api.Point{far, back, upright}, math.MaxInt, at("af982bfe5c8d08dc7c8a69a0f1c98036a04e8ff571fb40272a374d029130e0be", "83971e3685dd7d11ec09d25c219df0ed25a3745169f6fc5b114c9839822cf9a4")},
		{slices.Repeat([]api.Point{base}, 20), math.MaxInt, at("31fba9ca86d1cd823084aba425a1dc8a6f5ee6cb58d904356ccf477a1d27c7f1", "dc91886108c5ad55e82876e4a8152ebfd88eb2f05eeadad6e88c4eae4a4713c2")},
		{[]api.Point{upright, none, back, far}, 7, at("a80b2ad69d1e8ecd4d4fc61200cdb725d299db582a62e91addcacbb577b330a4", "7fa2b9236dc18bc0f99bbee5fa441aa1b735b84b4bce28e3c7558e5ef46d6d46")},
		{[]api.Point{back, base}, 2, none},
	} {
		checkEval(t, x.c, x.place, x.want)
	}
}

// 14.1: a single point among None goes with the power of its own place, far beyond q too.
func TestEvalSinglePlaces(t *testing.T) {
	t.Parallel()
	for _, place := range []int{2, 7, last, math.MaxInt} {
		for i := range 20 {
			c := slices.Repeat([]api.Point{none}, 20)
			c[i] = base
			checkEval(t, c, place, plainMul(toBig(residue(power(place, i))), base))
		}
	}
}

// 14.1: at 1 all points count once, in a long list too.
func TestEvalLong(t *testing.T) {
	t.Parallel()
	const n = 1000
	c := slices.Repeat([]api.Point{base}, n)
	checkEval(t, c, 1, plainMul(big.NewInt(n), base))
	checkEval(t, c, 0, base)
	c[n-1] = far
	checkEval(t, c, 1, plainMul(big.NewInt(123456789+n-1), base))
}

// 14.1: Eval of Commit at a place is the polynomial there times the base.
func TestEvalOfCommit(t *testing.T) {
	t.Parallel()
	for _, c := range polynomials() {
		points := feldman.Commit(c)
		for _, place := range places() {
			checkEval(t, points, place, plainMul(toBig(plainValue(c, place)), base))
		}
		for _, place := range []int{-1, math.MinInt} {
			checkEval(t, points, place, plainMul(toBig(plainValue(c, 0)), base))
		}
	}
}
