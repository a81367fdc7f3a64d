package gather_test

import (
	"slices"
	"testing"

	"sandglass/api"
	"sandglass/gather"
)

// roomy are lists that all have points behind their ends, as the list of them has.
func roomy(l [][]api.Point) [][]api.Point {
	all := make([][]api.Point, len(l))
	for i := range l {
		all[i] = append(slices.Clone(l[i]), base, none, base)[:len(l[i])]
	}
	return append(all, []api.Point{base}, nil)[:len(l)]
}

// wholes is a copy of all that the lists reach.
func wholes(l [][]api.Point) [][]api.Point {
	all := slices.Clone(l[:cap(l)])
	for i := range all {
		all[i] = slices.Clone(all[i][:cap(all[i])])
	}
	return all
}

// checkLasting holds that the lists still reach what they reached.
func checkLasting(t *testing.T, l, ahead [][]api.Point) {
	t.Helper()
	if now := wholes(l); !slices.EqualFunc(now, ahead, slices.Equal) {
		t.Errorf("what was handed in became %v; it was %v", now, ahead)
	}
}

// R4: what is handed in is not changed, with what lies behind its end, neither by New nor by the calls behind it.
func TestHandedInStays(t *testing.T) {
	for _, told := range [][][]api.Point{nil, commits(two()...), commits([]api.Num{{5}}), {points(2), wrong()[:2]}, {points(2), points(3)}} {
		l := roomy(told)
		ahead := wholes(l)
		for faults := -1; faults <= 3; faults++ {
			g := gather.New(faults, l)
			checkLasting(t, l, ahead)
			for dealer := -1; dealer <= 2; dealer++ {
				for place := range 4 {
					g.Put(dealer, shareAt(two()[0], place))
					g.Put(dealer, api.Share{At: place, V: api.Num{5}})
				}
				g.Have(dealer)
				g.Key()
			}
			checkLasting(t, l, ahead)
		}
	}
}

// R4: the points are not kept: what becomes of the lists behind New has no say.
func TestPointsChanged(t *testing.T) {
	for _, spoil := range []func(l [][]api.Point){
		func(l [][]api.Point) { clear(l) },
		func(l [][]api.Point) { clear(l[0]) },
		func(l [][]api.Point) { l[0][0], l[0][1] = l[0][1], l[0][0] },
		func(l [][]api.Point) { l[0], l[1] = l[1], l[0] },
		func(l [][]api.Point) { l[0][1], l[1][1] = base, base },
		func(l [][]api.Point) { l[1] = nil },
		func(l [][]api.Point) { l[0] = append(l[0][:1], none) },
		func(l [][]api.Point) { slices.Reverse(l[1]) },
	} {
		for when := range 5 {
			l := roomy(commits(two()...))
			x := newPair(t, 1, l)
			for i := range 4 {
				if i == when {
					spoil(l)
					x.check(t)
				}
				c := two()[i%2]
				x.put(t, i%2, api.Share{At: 1 + i, V: plus(valueAt(c, 1+i), 1)}, false)
				x.put(t, i%2, shareAt(c, 1+i), true)
			}
			if when == 4 {
				spoil(l)
			}
			checkHave(t, x.g, 2, 2)
			checkKey(t, x.g, api.Num{7}, api.OK)
		}
	}
}

// R4: what lies behind the end of a list has no say.
func TestBehindTheEnd(t *testing.T) {
	l := roomy(commits(two()...))
	x := newPair(t, 1, l)
	x.puts(t, 0, sharesAt(two()[0], 1, 2), true)
	x.puts(t, 1, sharesAt(two()[1], 1, 2), true)
	x.put(t, 2, api.Share{At: 1, V: api.Num{1}}, false)
	checkNew(t, 2, l, false)
	checkNew(t, 0, l[:1], false)
	checkNew(t, 0, l[:0], false)
	checkNew(t, 1, l[:3], false)
	checkNew(t, 1, [][]api.Point{l[0], l[1][:1]}, false)
	// The room behind one dealer's points is the next one's points.
	all := slices.Concat(commits(two()...)...)
	x = newPair(t, 1, [][]api.Point{all[:2], all[2:]})
	x.puts(t, 0, sharesAt(two()[0], 3, 2), true)
	x.puts(t, 1, sharesAt(two()[1], 3, 2), true)
	checkKey(t, x.g, api.Num{7}, api.OK)
}

// 27.1: one gathering knows nothing of another one's shares, also if they are made of the same lists.
func TestTwoGathers(t *testing.T) {
	l := commits(two()...)
	one, other := newPair(t, 1, l), newPair(t, 1, l)
	if one.g == other.g {
		t.Fatal("the same gathering twice")
	}
	one.puts(t, 0, sharesAt(two()[0], 1, 2), true)
	other.check(t)
	checkHave(t, other.g, 0, 0)
	other.put(t, 0, shareAt(two()[0], 1), true)
	one.puts(t, 1, sharesAt(two()[1], 1, 2), true)
	checkKey(t, one.g, api.Num{7}, api.OK)
	checkKey(t, other.g, api.Num{}, api.ErrShare)
	other.put(t, 0, shareAt(two()[0], 3), true)
	other.check(t)
	// One that is made later begins anew, and leaves the others as they are.
	later := newPair(t, 1, l)
	checkHave(t, later.g, 0, 0)
	later.puts(t, 1, sharesAt(two()[1], 5, 6), true)
	one.check(t)
	other.check(t)
	checkHave(t, other.g, 2, 0)
}

// 27.1: dealers of the same list of points have each their own shares.
func TestSamePoints(t *testing.T) {
	c := two()[0]
	points := commit(c)
	x := newPair(t, 1, [][]api.Point{points, points, points})
	x.puts(t, 1, sharesAt(c, 1, 2), true)
	checkHave(t, x.g, 0, 2, 0)
	x.puts(t, 0, sharesAt(c, 2, 1), true)
	x.puts(t, 2, sharesAt(c, 1, 9), true)
	checkKey(t, x.g, api.Num{15}, api.OK)
}
