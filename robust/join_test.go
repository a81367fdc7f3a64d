package robust_test

import (
	"math"
	"slices"
	"testing"

	"sandglass/api"
	"sandglass/robust"
)

func checkJoin(t *testing.T, c []api.Point, faults int, l []api.Share, want api.Num) {
	t.Helper()
	if got, err := robust.Join(c, faults, l); got != want || err != api.OK {
		t.Errorf("%x with t %d and points %v: %x, %d; want %x", l, faults, c, got, err, want)
	}
}

func checkRefused(t *testing.T, c []api.Point, faults int, l []api.Share, want api.Errno) {
	t.Helper()
	if got, err := robust.Join(c, faults, l); got != (api.Num{}) || err != want {
		t.Errorf("%x with t %d and points %v: %x, %d; want error %d", l, faults, c, got, err, want)
	}
}

// first is the first coefficient modulo q.
func first(c []api.Num) api.Num { return residue(toBig(c[0])) }

// 15.1: t + 1 right shares, and more, join to the first coefficient; of fewer: ErrShare.
func TestJoin(t *testing.T) {
	t.Parallel()
	for _, c := range dealt() {
		points, faults := commit(c), len(c)-1
		l := sharesAt(c, 4, last, 1, 2, 7)
		for n := range len(l) + 1 {
			if n <= faults {
				checkRefused(t, points, faults, l[:n], api.ErrShare)
			} else {
				checkJoin(t, points, faults, l[:n], first(c))
			}
		}
	}
}

// 15.1: values that another program made of the document's words.
func TestJoinValues(t *testing.T) {
	t.Parallel()
	c, points, shares := made()
	for i := range 4 {
		checkJoin(t, points, 2, shares[i:i+3], c[0])
	}
	checkJoin(t, points, 2, shares, c[0])
	checkRefused(t, points, 2, shares[4:], api.ErrShare)
}

// 15.1: of no share at all: ErrShare.
func TestJoinOfNoShare(t *testing.T) {
	for faults := range api.MaxFault + 1 {
		for _, l := range [][]api.Share{nil, {}, make([]api.Share, 3)[:0]} {
			checkRefused(t, commit(mixed(faults+1, 40)), faults, l, api.ErrShare)
			checkRefused(t, slices.Repeat([]api.Point{none}, faults+1), faults, l, api.ErrShare)
		}
	}
}

// 15.1: wrong shares, and ones at a place that is there already, are passed over: they neither count nor do harm.
func TestJoinAmongWrongOnes(t *testing.T) {
	t.Parallel()
	for _, c := range dealt() {
		points, faults := commit(c), len(c)-1
		var l []api.Share
		for i, right := range sharesAt(c, 5, 2, last)[:len(c)] {
			l = append(l, altered(right), shareAt(c, 0), shareAt(c, last+1), api.Share{At: right.At, V: greatest})
			l = append(l, slices.Clone(l)...)
			if i < faults {
				l = append(l, right, right, right, altered(right))
			}
		}
		checkRefused(t, points, faults, l, api.ErrShare)
		right := shareAt(c, 9)
		checkJoin(t, points, faults, append(slices.Clone(l), right), first(c))
		checkJoin(t, points, faults, append([]api.Share{right, right}, l...), first(c))
		checkJoin(t, points, faults, slices.Insert(slices.Clone(l), len(l)/2, right, altered(right)), first(c))
	}
}

// 15.1: wrong shares may come first, and be as many as would be enough, or more.
func TestJoinBehindWrongOnes(t *testing.T) {
	t.Parallel()
	for faults := range api.MaxFault + 1 {
		c, other := mixed(faults+1, uint64(50+faults)), mixed(faults+1, uint64(60+faults))
		l := append(sharesAt(other, 1, 2, 3, 4, 5), sharesAt(c, 5, 4, 3)...)
		checkJoin(t, commit(c), faults, l, first(c))
		checkRefused(t, commit(c), faults, l[:5], api.ErrShare)
	}
}

// 15.1: a share that counts modulo q as the right one, or stands at a place that may not be, is not among the t + 1.
func TestJoinRefusesUnfitShares(t *testing.T) {
	t.Parallel()
	c := []api.Num{{2}, order}
	points, right := commit(c), shareAt(c, 3)
	for _, place := range unfit() {
		checkRefused(t, points, 1, []api.Share{right, shareAt(c, place)}, api.ErrShare)
		checkRefused(t, points[:1], 0, []api.Share{shareAt(c, place)}, api.ErrShare)
	}
	for _, v := range []api.Num{order, near(2), greatest, {1}, {3}} {
		checkRefused(t, points, 1, []api.Share{{At: 1, V: v}, right}, api.ErrShare)
		checkJoin(t, points, 1, []api.Share{{At: 1, V: v}, right, {At: 1, V: api.Num{2}}}, api.Num{2})
	}
}

// faultCounts are those that may be, and others.
func faultCounts() []int {
	return []int{0, 1, 2, 3, 4, 6, 7, 8, -1, -2, -3, last, 1 << 32, 1<<32 + 1, math.MaxInt - 1, math.MaxInt, math.MinInt, math.MinInt + 1, math.MinInt + 2}
}

// 15.1: ErrArg, unless t is 0 to MaxFault and there are t + 1 points; R2: also where the shares are too few.
func TestJoinArguments(t *testing.T) {
	t.Parallel()
	// With None behind the base, the share 1 is right at each place, however many points there are.
	l := []api.Share{{At: 1, V: api.Num{1}}, {At: 2, V: api.Num{1}}, {At: 3, V: api.Num{1}}, {At: 4, V: api.Num{1}}}
	all := append([]api.Point{base}, slices.Repeat([]api.Point{none}, 8)...)
	for _, faults := range faultCounts() {
		for n := range len(all) + 1 {
			if 0 <= faults && faults <= 2 && n == faults+1 {
				checkJoin(t, all[:n], faults, l, api.Num{1})
				checkRefused(t, all[:n], faults, l[:faults], api.ErrShare)
				continue
			}
			checkRefused(t, all[:n], faults, l, api.ErrArg)
			checkRefused(t, all[:n], faults, l[:1], api.ErrArg)
			checkRefused(t, all[:n], faults, nil, api.ErrArg)
			checkRefused(t, all[:n], faults, []api.Share{{At: 0, V: api.Num{1}}, {At: 1, V: greatest}}, api.ErrArg)
		}
		checkRefused(t, nil, faults, l, api.ErrArg)
		checkRefused(t, nil, faults, nil, api.ErrArg)
	}
}

// 15.1: more than MaxFault is refused of right shares that would be enough.
func TestJoinPastMaxFault(t *testing.T) {
	t.Parallel()
	for n := api.MaxFault + 2; n <= api.MaxNodes; n++ {
		c := mixed(n, uint64(70+n))
		l := sharesAt(c, 1, 2, 3, 4, 5, 6, 7)
		checkRefused(t, commit(c), n-1, l, api.ErrArg)
		checkRefused(t, commit(c), api.MaxFault, l, api.ErrArg)
	}
}

// 15.1, T5: whichever t + 1 right shares come, in whatever order.
func TestJoinWhichever(t *testing.T) {
	t.Parallel()
	for faults := range api.MaxFault + 1 {
		c := mixed(faults+1, uint64(80+faults))
		points := commit(c)
		for _, l := range orders(sharesAt(c, 1, 3, 6, last)) {
			checkJoin(t, points, faults, l[:faults+1], first(c))
		}
	}
	c := []api.Num{{5}, {3}, {2}}
	points, l := commit(c), sharesAt(c, 1, 2, 3, 4, 5, 6, 7)
	for i := range l {
		for j := range l {
			for k := range l {
				if i != j && j != k && k != i {
					checkJoin(t, points, 2, []api.Share{l[i], l[j], l[k]}, api.Num{5})
				}
			}
		}
	}
}

// 15.1: None, and points that count as it, among the points: they are coefficients 0, and are counted.
func TestJoinWithNone(t *testing.T) {
	t.Parallel()
	for _, p := range append(wrong(), none) {
		checkJoin(t, []api.Point{p}, 0, []api.Share{{At: 1, V: api.Num{1}}, {At: 9}}, api.Num{})
		checkRefused(t, []api.Point{p}, 0, []api.Share{{At: 1, V: api.Num{1}}, {At: 9, V: order}}, api.ErrShare)
		checkJoin(t, []api.Point{p, base}, 1, []api.Share{{At: 9, V: api.Num{9}}, {At: 1, V: api.Num{1}}}, api.Num{})
		checkJoin(t, []api.Point{base, p}, 1, []api.Share{{At: 9, V: api.Num{9}}, {At: 1, V: api.Num{1}}, {At: last, V: api.Num{1}}}, api.Num{1})
		checkRefused(t, []api.Point{base, p}, 1, []api.Share{{At: 9, V: api.Num{9}}, {At: 1, V: api.Num{1}}}, api.ErrShare)
		checkJoin(t, []api.Point{base, p, base}, 2, sharesAt([]api.Num{{1}, {}, {1}}, 4, 2, 3), api.Num{1})
		checkRefused(t, []api.Point{base, p}, 0, []api.Share{{At: 1, V: api.Num{1}}}, api.ErrArg)
	}
}

// T5: what is answered is the number whose multiple of the base is the first point, though the shares are another dealer's where they are wrong.
func TestJoinIsTheKey(t *testing.T) {
	t.Parallel()
	for seed := range uint64(6) {
		c, other := mixed(3, 90+seed), mixed(3, 100+seed)
		points := commit(c)
		l := append(sharesAt(other, 1, 2, 4), sharesAt(c, 1, 3, 4, 2)...)
		k, err := robust.Join(points, 2, l)
		if err != api.OK || commit([]api.Num{k})[0] != points[0] {
			t.Errorf("seed %d: %x, %d", seed, k, err)
		}
		k, err = robust.Join(commit(other), 2, l)
		if err != api.OK || k != first(other) {
			t.Errorf("seed %d, the other one: %x, %d", seed, k, err)
		}
	}
}

// The chapter's example.
func TestExample(t *testing.T) {
	c := commit([]api.Num{{5}, {3}})
	l := []api.Share{{At: 1, V: api.Num{8}}, {At: 2, V: api.Num{9}}, {At: 2, V: api.Num{11}}}
	checkJoin(t, c, 1, l, api.Num{5})
	checkRefused(t, c, 1, l[:2], api.ErrShare)
	checkRight(t, c, l, []api.Share{l[0], l[2]})
}
