package feldman_test

import (
	"math"
	"slices"
	"testing"

	"sandglass/api"
	"sandglass/feldman"
)

// withMore is the list with items behind its end, which a call could reach.
func withMore[T any](l []T, more ...T) []T {
	all := append(slices.Clone(l), more...)
	return all[:len(l)]
}

// unchanged holds what a call was given against what it was ahead of it, with what lies behind its end.
func unchanged[T comparable](t *testing.T, name string, l []T, call func([]T)) {
	t.Helper()
	ahead := slices.Clone(l[:cap(l)])
	call(l)
	if !slices.Equal(l[:cap(l)], ahead) {
		t.Errorf("%s changed what it was given: %v; it was %v", name, l[:cap(l)], ahead)
	}
}

// R4: what is handed in is not changed, neither where it is answered nor where it is refused.
func TestHandedInStays(t *testing.T) {
	t.Parallel()
	for _, c := range polynomials() {
		unchanged(t, "Commit", withMore(c, greatest, api.Num{7}), func(c []api.Num) { feldman.Commit(c) })
	}
	for _, c := range pointLists() {
		c = withMore(c, far, wrong()[4], none)
		unchanged(t, "Eval", c, func(c []api.Point) { feldman.Eval(c, 3) })
		for _, s := range []api.Share{{At: 3}, {At: 2, V: api.Num{9}}, {}, {At: 1, V: greatest}} {
			unchanged(t, "Verify", c, func(c []api.Point) { feldman.Verify(c, s) })
		}
	}
}

// R4: neither the lists that Public is given nor what is in them.
func TestPublicChangesNothing(t *testing.T) {
	var l, ahead [][]api.Point
	for _, c := range pointLists() {
		c = withMore(c, far, wrong()[4], none)
		l = append(l, c)
		ahead = append(ahead, slices.Clone(c[:cap(c)]))
	}
	l = withMore(l, []api.Point{far}, nil)
	feldman.Public(l)
	for i, c := range l {
		if len(c) != len(pointLists()[i]) || !slices.Equal(c[:cap(c)], ahead[i]) {
			t.Errorf("list %d became %v", i, c[:cap(c)])
		}
	}
	if behind := l[:len(l)+2][len(l):]; !slices.Equal(behind[0], []api.Point{far}) || behind[1] != nil {
		t.Errorf("behind the lists: %v", behind)
	}
}

// R4, R5: an answer stays when another one is asked for and written over, and when what was handed in is.
func TestAnswersApart(t *testing.T) {
	c := mixed(4, 40)
	want := plainCommit(c)
	first, second := feldman.Commit(c), feldman.Commit(c)
	clear(second[:cap(second)])
	clear(c)
	if !slices.Equal(first, want) {
		t.Errorf("the points became %v", first)
	}
	again := feldman.Commit(c)
	if !slices.Equal(again, slices.Repeat([]api.Point{none}, 4)) || !slices.Equal(first, want) {
		t.Errorf("of 0s: %v; the first points: %v", again, first)
	}
}

// R4: what lies behind the end of a list has no say.
func TestBehindTheEnd(t *testing.T) {
	t.Parallel()
	for _, c := range pointLists() {
		checkEval(t, withMore(c, far, base), 3, plainEval(c, 3))
	}
	for _, c := range dealt() {
		points := withMore(plainCommit(c), far, base)
		checkVerify(t, points, shareAt(c, 3), true)
		if got := feldman.Commit(withMore(c, api.Num{7})); !slices.Equal(got, points) {
			t.Errorf("Commit of %v: %v; want %v", c, got, points)
		}
	}
	l := withMore([][]api.Point{{base}, withMore([]api.Point{}, far), {upright}}, []api.Point{far})
	checkPoint(t, "Public", feldman.Public(l), plainAdd(base, upright))
}

// R5: the same arguments have the same answer again, behind other calls, refused ones among them.
func TestSameAgain(t *testing.T) {
	t.Parallel()
	c := mixed(3, 41)
	points := plainCommit(c)
	value := plainEval(points, 5)
	for range 3 {
		if got := feldman.Commit(c); !slices.Equal(got, points) {
			t.Errorf("Commit: %v", got)
		}
		checkEval(t, points, 5, value)
		checkVerify(t, points, shareAt(c, 5), true)
		checkVerify(t, points, shareAt(c, 0), false)
		checkPoint(t, "Public", feldman.Public([][]api.Point{points, {base}}), plainAdd(points[0], base))
		feldman.Commit(edges())
		for _, other := range pointLists() {
			feldman.Eval(other, 2)
			feldman.Eval(other, math.MinInt)
			feldman.Verify(other, api.Share{At: 2, V: api.Num{9}})
			feldman.Verify(other, api.Share{At: -2, V: greatest})
			feldman.Public([][]api.Point{other, points})
		}
	}
}

// R3: a list that is empty may be nil or of length 0.
func TestEmpty(t *testing.T) {
	for _, c := range [][]api.Num{nil, {}, mixed(3, 42)[:0]} {
		if got := feldman.Commit(c); len(got) != 0 {
			t.Errorf("Commit of none: %v", got)
		}
	}
}
