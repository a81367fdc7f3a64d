package robust_test

import (
	"math"
	"slices"
	"testing"

	"sandglass/api"
	"sandglass/robust"
)

func checkRight(t *testing.T, c []api.Point, l, want []api.Share) {
	t.Helper()
	if got := robust.Right(c, l); !slices.Equal(got, want) {
		t.Errorf("of %x with points %v are right: %x; want %x", l, c, got, want)
	}
}

// unfit are places that may not be.
func unfit() []int {
	return []int{0, -1, -2, -7, -last, math.MinInt + 1, math.MinInt, last + 1, last + 2, math.MaxUint32, 1 << 32, 1<<32 + 1, math.MaxInt - 1, math.MaxInt}
}

// 15.1: of no share, none.
func TestRightOfNoShare(t *testing.T) {
	some := []api.Share{{At: 1}, {At: 2}}
	for _, c := range [][]api.Point{nil, {}, {none}, {base}, {none, base}, wrong(), commit(mixed(7, 10))} {
		for _, l := range [][]api.Share{nil, {}, some[:0]} {
			checkRight(t, c, l, nil)
		}
	}
}

// 15.1: of no point, none: neither of 0s nor of any other.
func TestRightOfNoPoint(t *testing.T) {
	l := []api.Share{{At: 1}, {At: 2, V: api.Num{1}}, {At: last, V: near(-1)}, {At: 3, V: order}, {At: 4, V: greatest}, {}, {At: -1}, {At: last + 1}}
	for _, c := range [][]api.Point{nil, {}, {none, base}} {
		checkRight(t, c[:0], l, nil)
		for _, s := range l {
			checkRight(t, c[:0], []api.Share{s}, nil)
		}
	}
}

// 15.1: of shares that are all right, all.
func TestRightOfRightOnes(t *testing.T) {
	t.Parallel()
	for _, c := range dealt() {
		l := sharesAt(c, 3, 1, last, 7, 8, last-1, 2)
		checkRight(t, commit(c), l, l)
		checkRight(t, commit(c), l[2:3], l[2:3])
	}
	_, points, shares := made()
	checkRight(t, points, shares, shares)
}

// 15.1: of shares that are all wrong, none.
func TestRightOfWrongOnes(t *testing.T) {
	t.Parallel()
	for _, c := range dealt() {
		var l []api.Share
		for _, s := range sharesAt(c, 1, 7, last) {
			l = append(l, altered(s), api.Share{At: s.At, V: plus(s.V, -1)}, api.Share{At: s.At, V: plus(s.V, 1<<40)})
		}
		checkRight(t, commit(c), l, nil)
		checkRight(t, commit(c), l[4:5], nil)
	}
}

// 15.1: every list of up to three shares out of right and wrong ones at three places.
func TestRightOfSmallLists(t *testing.T) {
	t.Parallel()
	c := []api.Num{{5}, {3}}
	points := commit(c)
	lists := [][]api.Share{nil}
	for from := 0; from < len(lists); from++ {
		checkRight(t, points, lists[from], plainRight(c, lists[from]))
		if len(lists[from]) == 3 {
			continue
		}
		for _, s := range []api.Share{{At: 1, V: api.Num{8}}, {At: 1, V: api.Num{9}}, {At: 2, V: api.Num{11}}, {At: 2, V: api.Num{8}}, {At: 0, V: api.Num{5}}} {
			lists = append(lists, append(slices.Clone(lists[from]), s))
		}
	}
}

// 15.1: longer lists of right and wrong shares without a pattern.
func TestRightOfMixedLists(t *testing.T) {
	t.Parallel()
	seed := uint64(11)
	for n := 1; n <= 3; n++ {
		c := mixed(n, uint64(12+n))
		for range 8 {
			var l []api.Share
			for range 12 {
				seed = seed*6364136223846793005 + 1442695040888963407
				s := shareAt(c, int(seed>>33%6))
				if seed>>40%3 == 0 {
					s = altered(s)
				}
				l = append(l, s)
			}
			checkRight(t, commit(c), l, plainRight(c, l))
		}
	}
}

// 15.1: of two right ones at a place, which are the same one, the first stands where it came, and no other.
func TestRightOfOneTwice(t *testing.T) {
	t.Parallel()
	c := mixed(2, 20)
	points := commit(c)
	for _, x := range []struct{ places, want []int }{
		{[]int{1, 1}, []int{1}},
		{[]int{last, last, last}, []int{last}},
		{[]int{1, 2, 1}, []int{1, 2}},
		{[]int{2, 1, 1}, []int{2, 1}},
		{[]int{1, 1, 2}, []int{1, 2}},
		{[]int{3, 1, 2, 3, 2, 1, 4, 3}, []int{3, 1, 2, 4}},
		{[]int{last, 1, last - 1, 1, last}, []int{last, 1, last - 1}},
		{slices.Repeat([]int{7, 5}, 500), []int{7, 5}},
	} {
		checkRight(t, points, sharesAt(c, x.places...), sharesAt(c, x.want...))
	}
}

// 15.1: places whose low bits are the same are others.
func TestRightOfFarPlaces(t *testing.T) {
	t.Parallel()
	c := []api.Num{{5}, {3}}
	l := sharesAt(c, 1, 1<<8+1, 1<<16+1, 1<<24+1, 1<<30+1, 1<<31, 1<<30, 1<<24, 1<<16, 1<<8)
	checkRight(t, commit(c), slices.Concat(l, l), l)
}

// 15.1: a wrong one does not stand in for the right one at its place, ahead of it or behind it.
func TestRightBehindWrong(t *testing.T) {
	t.Parallel()
	c := mixed(2, 21)
	points := commit(c)
	one, two, three := shareAt(c, 1), shareAt(c, 2), shareAt(c, 3)
	for _, x := range []struct{ l, want []api.Share }{
		{[]api.Share{altered(one), one}, []api.Share{one}},
		{[]api.Share{one, altered(one)}, []api.Share{one}},
		{[]api.Share{altered(one), altered(one), one, one, altered(one)}, []api.Share{one}},
		{[]api.Share{altered(one), two, one}, []api.Share{two, one}},
		{[]api.Share{altered(one), altered(two), altered(three), three, two, one}, []api.Share{three, two, one}},
		{[]api.Share{two, altered(one), altered(two), one, three, altered(three)}, []api.Share{two, one, three}},
		{[]api.Share{{At: 1, V: greatest}, {At: 1, V: two.V}, one, {At: 2, V: one.V}, {At: 2, V: order}, two}, []api.Share{one, two}},
	} {
		checkRight(t, points, x.l, x.want)
	}
}

// 15.1: places that may not be, though the value there is the polynomial's.
func TestRightPlaces(t *testing.T) {
	t.Parallel()
	for _, c := range [][]api.Num{{{5}}, {{}, {}}, {{5}, {3}}, mixed(3, 22)} {
		points := commit(c)
		var l []api.Share
		for _, place := range unfit() {
			l = append(l, shareAt(c, place), shareAt(c, place), api.Share{At: place, V: valueAt(c, 0)}, api.Share{At: place, V: valueAt(c, int(uint32(place)))})
		}
		checkRight(t, points, l, nil)
		right := sharesAt(c, last, 1)
		checkRight(t, points, slices.Concat(right[:1], l, right[1:]), right)
	}
}

// 15.1: values of q and more, though they count as the right ones, are passed over; the right one behind them is there.
func TestRightValues(t *testing.T) {
	t.Parallel()
	for v := range uint64(3) {
		for _, c := range [][]api.Num{{{v}}, {near(-1), {v + 1}}} {
			right := shareAt(c, 1)
			more := api.Share{At: 1, V: near(int64(right.V[0]))}
			l := []api.Share{more, {At: 1, V: order}, {At: 1, V: greatest}, right, more, {At: 2, V: greatest}}
			checkRight(t, commit(c), l, []api.Share{right})
			checkRight(t, commit(c), l[:3], nil)
		}
	}
	for _, v := range []api.Num{order, near(1), greatest} {
		rest := residue(toBig(v))
		l := []api.Share{{At: 1, V: v}, {At: 2, V: v}, {At: 2, V: rest}, {At: last, V: v}}
		checkRight(t, commit([]api.Num{v}), l, l[2:3])
	}
}

// 15.1: they stand as they came, whatever their order.
func TestRightOrders(t *testing.T) {
	t.Parallel()
	c := []api.Num{{5}, {3}}
	points := commit(c)
	for _, l := range orders(append(sharesAt(c, 1, last, 4, 2), api.Share{At: 3, V: api.Num{13}})) {
		checkRight(t, points, l, slices.DeleteFunc(slices.Clone(l), func(s api.Share) bool { return s.At == 3 }))
	}
}

// 15.1: more right ones than there are nodes, each with a wrong one ahead and itself again behind.
func TestRightOfMany(t *testing.T) {
	t.Parallel()
	c := []api.Num{{5}, {3}}
	var l, want []api.Share
	for i := range 150 {
		right := shareAt(c, (i*37)%151+1)
		want = append(want, right)
		l = append(l, altered(right), right, want[i/2])
	}
	checkRight(t, commit(c), l, want)
}

// 15.1: commitments of one to seven points.
func TestRightDegrees(t *testing.T) {
	t.Parallel()
	for n := 1; n <= 7; n++ {
		c := mixed(n, uint64(30+n))
		right := sharesAt(c, 2, last)
		l := []api.Share{right[0], altered(right[1]), right[1]}
		checkRight(t, commit(c), l, right)
		checkRight(t, append(commit(c), base), l, nil)
		checkRight(t, commit(c)[:n-1], l, nil)
	}
}

// 15.1: None, and points that are none of the curve and count as it, are coefficients 0.
func TestRightWithNone(t *testing.T) {
	t.Parallel()
	for _, p := range append(wrong(), none) {
		for _, x := range []struct {
			points []api.Point
			c      []api.Num
		}{
			{[]api.Point{p}, []api.Num{{}}},
			{[]api.Point{p, p}, []api.Num{{}, {}}},
			{[]api.Point{p, base}, []api.Num{{}, {1}}},
			{[]api.Point{base, p}, []api.Num{{1}, {}}},
			{[]api.Point{base, p, base}, []api.Num{{1}, {}, {1}}},
		} {
			l := []api.Share{{At: 2, V: api.Num{1}}, {At: 1}, {At: 2}, {At: 2, V: api.Num{2}}, {At: 1, V: api.Num{1}}, {At: 2, V: api.Num{5}}, {At: 3, V: order}, shareAt(x.c, 3)}
			checkRight(t, x.points, l, plainRight(x.c, l))
		}
	}
}

// 15.1: shares of another polynomial are right where the two meet.
func TestRightOfAnother(t *testing.T) {
	t.Parallel()
	one, other := []api.Num{{5}, {3}}, []api.Num{{3}, {4}}
	l := sharesAt(other, 1, 2, 3, 4, 5, 6, 7)
	checkRight(t, commit(one), l, l[1:2])
	checkRight(t, commit(other), l, l)
}
