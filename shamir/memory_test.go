package shamir_test

import (
	"slices"
	"testing"

	"sandglass/api"
	"sandglass/shamir"
)

// withMore is the list with items behind its end, which a call could reach.
func withMore[T any](l []T, more ...T) []T {
	all := append(slices.Clone(l), more...)
	return all[:len(l)]
}

// unchanged holds what a call was given against what it was ahead of it, with what lies behind its end.
func unchanged[T comparable](t *testing.T, name string, l []T, call func([]T)) {
	t.Helper()
	ahead := slices.Clone(l[:cap(l)])
	call(l)
	if !slices.Equal(l[:cap(l)], ahead) {
		t.Errorf("%s changed what it was given: %v; it was %v", name, l[:cap(l)], ahead)
	}
}

// R4: what is handed in is not changed, neither where it is answered nor where it is refused.
func TestHandedInStays(t *testing.T) {
	for _, c := range polynomials() {
		c = withMore(c, greatest, api.Num{7})
		unchanged(t, "Eval", c, func(c []api.Num) { shamir.Eval(c, 9) })
		unchanged(t, "Shares", c, func(c []api.Num) { shamir.Shares(c, 9) })
	}
	for _, at := range append(fitting(), unfit()...) {
		at = withMore(at, 5, -1, 3)
		unchanged(t, "Weights", at, func(at []int) { shamir.Weights(at) })
		l := withMore(withValues(at, edges()), api.Share{At: 5, V: greatest}, api.Share{At: -1})
		unchanged(t, "Join", l, func(l []api.Share) { shamir.Join(l) })
	}
}

// R4, R5: an answer stays when another one is asked for and written over, and when what was handed in is.
func TestAnswersApart(t *testing.T) {
	c := mixed(4, 12)
	want := sharesAt(c, rising(7))
	first, second := shamir.Shares(c, 7), shamir.Shares(c, 7)
	clear(second[:cap(second)])
	clear(c)
	if !slices.Equal(first, want) {
		t.Errorf("the shares became %x", first)
	}
	at := []int{5, 9, 4, last, 1}
	weights := plainWeights(at)
	one, _ := shamir.Weights(at)
	two, _ := shamir.Weights(at)
	clear(two[:cap(two)])
	clear(at)
	if !slices.Equal(one, weights) {
		t.Errorf("the weights became %x", one)
	}
}

// R4: what lies behind the end of a list has no say.
func TestBehindTheEnd(t *testing.T) {
	for _, c := range polynomials() {
		more := withMore(c, greatest, api.Num{7})
		if got, want := shamir.Eval(more, 3), plainEval(c, 3); got != want {
			t.Errorf("%x at 3: %x; want %x", c, got, want)
		}
	}
	for _, at := range fitting() {
		checkWeights(t, withMore(at, at[0], -1), plainWeights(at))
		l := withValues(at, edges())
		checkJoin(t, withMore(l, l[0], api.Share{}), plainJoin(l))
	}
}

// R5: the same arguments have the same answer again, behind other calls, refused ones among them.
func TestSameAgain(t *testing.T) {
	c := mixed(3, 13)
	at := []int{3, last, 1}
	l := sharesAt(c, at)
	for range 3 {
		if got := shamir.Eval(c, 5); got != plainEval(c, 5) {
			t.Errorf("Eval: %x", got)
		}
		if got := shamir.Shares(c, 7); !slices.Equal(got, sharesAt(c, rising(7))) {
			t.Errorf("Shares: %x", got)
		}
		checkWeights(t, at, plainWeights(at))
		checkJoin(t, l, residue(toBig(c[0])))
		shamir.Eval(mixed(20, 14), -1)
		shamir.Shares(mixed(20, 15), 2)
		for _, other := range append(fitting(), unfit()...) {
			shamir.Weights(other)
			shamir.Join(withValues(other, edges()))
		}
	}
}

// R3: a list that is empty may be nil or of length 0.
func TestEmpty(t *testing.T) {
	for _, c := range [][]api.Num{nil, {}, mixed(3, 16)[:0]} {
		if got := shamir.Eval(c, 4); got != (api.Num{}) {
			t.Errorf("Eval of none: %x", got)
		}
		if got := shamir.Shares(c, 2); !slices.Equal(got, []api.Share{{At: 1}, {At: 2}}) {
			t.Errorf("Shares of none: %x", got)
		}
	}
	for _, at := range [][]int{nil, {}, rising(3)[:0]} {
		if got, err := shamir.Weights(at); err != api.ErrArg || len(got) != 0 {
			t.Errorf("Weights of none: %x, %d", got, err)
		}
	}
	for _, l := range [][]api.Share{nil, {}, {{At: 1, V: api.Num{8}}}} {
		if got, err := shamir.Join(l[:0]); err != api.ErrArg || got != (api.Num{}) {
			t.Errorf("Join of none: %x, %d", got, err)
		}
	}
}
