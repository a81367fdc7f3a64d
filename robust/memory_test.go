package robust_test

import (
	"math"
	"slices"
	"testing"

	"sandglass/api"
	"sandglass/robust"
)

// withMore is the list with items behind its end, which a call could reach.
func withMore[T any](l []T, more ...T) []T {
	all := append(slices.Clone(l), more...)
	return all[:len(l)]
}

// someLists are shares of the polynomial: all right, all wrong, mixed and none.
func someLists(c []api.Num) [][]api.Share {
	right := sharesAt(c, 2, 1, 3)
	wrong := []api.Share{altered(right[0]), {}, {At: 1, V: greatest}}
	return [][]api.Share{nil, right, wrong, slices.Concat(wrong, right, right), slices.Concat(right, wrong, right)}
}

// R4: what is handed in is not changed, with what lies behind its end, neither where it is answered nor where it is refused.
func TestHandedInStays(t *testing.T) {
	t.Parallel()
	c := mixed(2, 110)
	for _, l := range someLists(c) {
		l = withMore(l, shareAt(c, 5), shareAt(c, 6), api.Share{At: 7, V: greatest}, api.Share{})
		for _, points := range [][]api.Point{commit(c), {base, wrong()[3]}, nil} {
			points = withMore(points, base, wrong()[4], none)
			shares, ahead := slices.Clone(l[:cap(l)]), slices.Clone(points[:cap(points)])
			got := robust.Right(points, l)
			clear(got[:cap(got)])
			for _, faults := range []int{-1, 0, 1, 2, 3} {
				robust.Join(points, faults, l)
			}
			if !slices.Equal(l[:cap(l)], shares) || !slices.Equal(points[:cap(points)], ahead) {
				t.Errorf("what was handed in became %x and %v", l[:cap(l)], points[:cap(points)])
			}
		}
	}
}

// R4: an answer stays when another one is asked for and written over, and when what was handed in is.
func TestAnswersApart(t *testing.T) {
	t.Parallel()
	c := mixed(2, 111)
	for _, l := range someLists(c) {
		points, want := commit(c), plainRight(c, l)
		one, two := robust.Right(points, l), robust.Right(points, l)
		clear(two[:cap(two)])
		clear(l)
		clear(points)
		if !slices.Equal(one, want) {
			t.Errorf("the answer became %x; it was %x", one, want)
		}
		robust.Right(commit([]api.Num{{1}}), []api.Share{{At: 1, V: api.Num{1}}, {At: 2, V: api.Num{1}}})
		if !slices.Equal(one, want) {
			t.Errorf("behind another call the answer became %x; it was %x", one, want)
		}
	}
}

// R4: what lies behind the end of a list has no say.
func TestBehindTheEnd(t *testing.T) {
	t.Parallel()
	c := mixed(2, 112)
	points := withMore(commit(c), base, none)
	l := withMore(sharesAt(c, 1), shareAt(c, 2), shareAt(c, 3))
	checkRight(t, points, l, l)
	checkRefused(t, points, 1, l, api.ErrShare)
	checkRefused(t, points, 2, l[:3], api.ErrArg)
	checkRefused(t, points[:1], 1, l[:3], api.ErrArg)
	checkJoin(t, points, 1, l[:2], first(c))
	checkRight(t, points[:0], l, nil)
}

// R5: the same arguments have the same answer again, behind other calls, refused ones among them.
func TestSameAgain(t *testing.T) {
	t.Parallel()
	c := mixed(2, 113)
	points := commit(c)
	right := sharesAt(c, 4, 2)
	l := []api.Share{altered(right[1]), right[0], right[0], right[1]}
	for range 3 {
		checkRight(t, points, l, right)
		checkJoin(t, points, 1, l, first(c))
		checkRefused(t, points, 1, l[:3], api.ErrShare)
		checkRefused(t, points, math.MaxInt, l, api.ErrArg)
		other := mixed(3, 114)
		robust.Right(commit(other), sharesAt(other, 2, 4, 2, 0, -1))
		robust.Right(wrong(), l)
		robust.Right(nil, l)
		robust.Join(commit(other), 2, sharesAt(other, 4, 2, 1))
		robust.Join(commit(other), 2, sharesAt(other, 4, 2))
		robust.Join(wrong(), math.MinInt, l)
	}
}

// R3: a list that is empty may be nil or of length 0.
func TestEmpty(t *testing.T) {
	for _, c := range [][]api.Point{nil, {}, {base}} {
		for _, l := range [][]api.Share{nil, {}} {
			checkRight(t, c[:0], l, nil)
			checkRefused(t, c[:0], 0, l, api.ErrArg)
		}
	}
}
