package shamir_test

import (
	"math"
	"slices"
	"testing"

	"sandglass/api"
	"sandglass/shamir"
)

// polynomials have no coefficient, one, two and many, at the edges and without a pattern.
func polynomials() [][]api.Num {
	l := [][]api.Num{nil, {}, {{5}, {3}}, edges(), mixed(1, 1), mixed(2, 2), mixed(7, 3), mixed(20, 4)}
	for _, a := range edges() {
		l = append(l, []api.Num{a}, slices.Repeat([]api.Num{a}, 7), slices.Repeat([]api.Num{a}, 20))
		for _, b := range edges() {
			l = append(l, []api.Num{a, b})
		}
	}
	for i := range 20 {
		alone := make([]api.Num, 20)
		alone[i] = greatest
		l = append(l, alone)
	}
	return append(l, slices.Concat(edges(), mixed(8, 5), edges()))
}

// places are some that Eval may be asked at, the edges among them.
func places() []int {
	return []int{0, 1, 2, 3, 7, 8, 1 << 16, math.MaxInt32, last, last + 1, math.MaxUint32, 1 << 32, 1 << 62, math.MaxInt - 1, math.MaxInt}
}

// 13.1: Eval against a plain count.
func TestEval(t *testing.T) {
	for i, c := range polynomials() {
		for _, at := range places() {
			if got, want := shamir.Eval(c, at), plainEval(c, at); got != want {
				t.Errorf("polynomial %d at %d: %x; want %x", i, at, got, want)
			}
		}
	}
}

// 13.1: below 0 the polynomial is what it is at 0, the first coefficient modulo q.
func TestEvalBelow(t *testing.T) {
	for i, c := range polynomials() {
		var want api.Num
		if len(c) > 0 {
			want = residue(toBig(c[0]))
		}
		for _, at := range []int{0, -1, -2, -7, -last, math.MinInt32, math.MinInt + 1, math.MinInt} {
			if got := shamir.Eval(c, at); got != want {
				t.Errorf("polynomial %d at %d: %x; want %x", i, at, got, want)
			}
		}
	}
}

// 13.1: values that another program made of the document's words.
func TestEvalValues(t *testing.T) {
	for _, x := range []struct {
		c    []api.Num
		at   int
		want api.Num
	}{
		{nil, 3, api.Num{}},
		{[]api.Num{{5}}, 3, api.Num{5}},
		{[]api.Num{order}, 3, api.Num{}},
		{[]api.Num{{}, {}, {1}}, last, api.Num{1 << 62}},
		{[]api.Num{near(-1), near(-1), near(-1)}, 2, near(-7)},
		{[]api.Num{greatest, greatest, greatest}, 7, num("38ffffffc7000000000000000ef0922f55cbbdb465bba1da95cdecb0be")},
		{[]api.Num{{1}, {2}, {3}}, math.MaxInt, num("bffffffffffffffe0000000000000002")},
		{slices.Repeat([]api.Num{greatest}, 20), math.MaxInt, num("4089e644278e0e364e231c15f342fbf9ca168e24f0d2b66a46d90b74d637fd6e")},
		{[]api.Num{order, near(1), near(-1), {}, {1}, greatest}, last, num("96f8d3607110ac8bbe665054c3c98c78cf83e6ce7b6aba46b4bf106a08fc98b6")},
	} {
		if got := shamir.Eval(x.c, x.at); got != x.want {
			t.Errorf("%x at %d: %x; want %x", x.c, x.at, got, x.want)
		}
	}
}

// 13.1: Shares stand at 1 to n, and at no more than 7 places.
func TestShares(t *testing.T) {
	for i, c := range polynomials() {
		for _, x := range []struct{ n, want int }{
			{1, 1}, {2, 2}, {3, 3}, {4, 4}, {5, 5}, {6, 6}, {7, 7}, {8, 7}, {9, 7}, {100, 7}, {last, 7}, {math.MaxInt - 1, 7}, {math.MaxInt, 7},
		} {
			if got, want := shamir.Shares(c, x.n), sharesAt(c, rising(x.want)); !slices.Equal(got, want) {
				t.Errorf("polynomial %d, %d shares: %x; want %x", i, x.n, got, want)
			}
		}
	}
}

// 13.1: there are none of less than 1.
func TestSharesBelow(t *testing.T) {
	for _, n := range []int{0, -1, -2, -7, -last, math.MinInt + 1, math.MinInt} {
		for i, c := range polynomials() {
			if got := shamir.Shares(c, n); len(got) != 0 {
				t.Errorf("polynomial %d, %d shares: %x", i, n, got)
			}
		}
	}
}

// 13.1: a share is what Eval is there.
func TestSharesAreEval(t *testing.T) {
	for i, c := range polynomials() {
		for _, s := range shamir.Shares(c, api.MaxNodes) {
			if got := shamir.Eval(c, s.At); got != s.V {
				t.Errorf("polynomial %d at %d: %x; its share is %x", i, s.At, got, s.V)
			}
		}
	}
}

// The chapter's examples, and the document's sixth.
func TestExamples(t *testing.T) {
	c := []api.Num{{5}, {3}}
	want := []api.Share{{At: 1, V: api.Num{8}}, {At: 2, V: api.Num{11}}, {At: 3, V: api.Num{14}}}
	l := shamir.Shares(c, 3)
	if !slices.Equal(l, want) {
		t.Fatalf("shares of 5, 3: %v", l)
	}
	if w, err := shamir.Weights([]int{1, 2}); err != api.OK || !slices.Equal(w, []api.Num{{2}, near(-1)}) {
		t.Errorf("weights of 1, 2: %x, %d", w, err)
	}
	if k, err := shamir.Join(l[:2]); err != api.OK || k != (api.Num{5}) {
		t.Errorf("8 and 11 join to %x, %d", k, err)
	}
}
