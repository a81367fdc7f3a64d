package dkg_test

import (
	"math/rand"
	"slices"
	"testing"

	"sandglass/api"
	"sandglass/dkg"
)

// times is so many times the base.
func times(n uint64) api.Point { return plainBase(api.Num{n}) }

// commitsTo is a deal whose Commits begin with these multiples of the base, each with another point behind it.
func commitsTo(n ...uint64) api.Deal {
	var d api.Deal
	for i, k := range n {
		d.Commits = append(d.Commits, []api.Point{times(k), times(uint64(1000 + i))})
	}
	return d
}

// absent are places of dealers who are not there, of three.
func absent() []int { return append([]int{0, -1, -2, -3, 4, 5, 8, 256, 257}, farInts()...) }

// 25.1: the sum of the chosen dealers' first points, of each epoch.
func TestKeysByHeart(t *testing.T) {
	l := []api.Deal{commitsTo(5, 7), commitsTo(20, 30), commitsTo(100, 600)}
	checkKeys(t, l, []int{1}, times(5), times(7))
	checkKeys(t, l, []int{2}, times(20), times(30))
	checkKeys(t, l, []int{1, 2}, times(25), times(37))
	checkKeys(t, l, []int{1, 3}, times(105), times(607))
	checkKeys(t, l, []int{2, 3}, times(120), times(630))
	checkKeys(t, l, []int{1, 2, 3}, times(125), times(637))
	checkKeys(t, l, []int{3, 1, 2}, times(125), times(637))
	checkKeys(t, []api.Deal{commitsTo(1)}, []int{1}, base)
}

// 25.1: of no dealers there are no keys.
func TestKeysOfNone(t *testing.T) {
	l := []api.Deal{commitsTo(5, 7), {}, commitsTo(9)}
	for _, chosen := range [][]int{nil, {}, []int{1, 2}[:0]} {
		checkKeys(t, l, chosen)
		checkKeys(t, nil, chosen)
	}
	for _, none := range [][]api.Deal{nil, {}, l[:0]} {
		for _, chosen := range [][]int{{1}, {1, 1}, {0}, {-1, 2}, farInts()} {
			checkKeys(t, none, chosen)
		}
	}
	for _, l := range [][]api.Deal{{{}}, {{Commits: [][]api.Point{}}}, {{Values: [][]api.Num{{{5}}}}}} {
		checkKeys(t, l, []int{1})
	}
}

// 25.1: a dealer who is not there has no Commits: in the first place there are no epochs.
func TestKeysFirstAbsent(t *testing.T) {
	l := []api.Deal{commitsTo(5, 7), commitsTo(20, 30), commitsTo(100, 600)}
	for _, dealer := range absent() {
		checkKeys(t, l, []int{dealer})
		checkKeys(t, l, []int{dealer, 1})
		checkKeys(t, l, []int{dealer, 1, 2, 3})
		checkKeys(t, l, []int{dealer, dealer, 2})
	}
}

// 25.1: dealers who are not there are passed over behind the first place.
func TestKeysAbsent(t *testing.T) {
	l := []api.Deal{commitsTo(5, 7), commitsTo(20, 30), commitsTo(100, 600)}
	for _, dealer := range absent() {
		checkKeys(t, l, []int{1, dealer}, times(5), times(7))
		checkKeys(t, l, []int{1, dealer, 3}, times(105), times(607))
		checkKeys(t, l, []int{3, dealer, dealer, 2, 1, dealer}, times(125), times(637))
	}
	checkKeys(t, l, slices.Concat([]int{2}, absent(), []int{3}, absent()), times(120), times(630))
	// Those behind the list's end are not there, either.
	checkKeys(t, l[:2], []int{1, 3, 2}, times(25), times(37))
	checkKeys(t, l[:2], []int{3, 1, 2})
	checkKeys(t, l, []int{1, 2, 3}[:2], times(25), times(37))
}

// 25.1: there are as many keys as the first chosen dealer has Commits; what the others have not is passed over.
func TestKeysLengths(t *testing.T) {
	l := []api.Deal{commitsTo(1), commitsTo(10, 20, 30), {}, commitsTo(100, 200), commitsTo(1000, 2000, 3000, 4000, 5000, 6000)}
	checkKeys(t, l, []int{1, 2}, times(11))
	checkKeys(t, l, []int{2, 1}, times(11), times(20), times(30))
	checkKeys(t, l, []int{2, 4, 1}, times(111), times(220), times(30))
	checkKeys(t, l, []int{4, 2, 3}, times(110), times(220))
	checkKeys(t, l, []int{3, 1, 2, 4, 5})
	checkKeys(t, l, []int{1, 3, 3, 4}, times(101))
	checkKeys(t, l, []int{5, 4, 3, 2, 1}, times(1111), times(2220), times(3030), times(4000), times(5000), times(6000))
	checkKeys(t, l, []int{1, 2, 3, 4, 5}, times(1111))
}

// 25.1: Commits without a point are passed over, those of the first dealer, too: the epoch is there.
func TestKeysEmpty(t *testing.T) {
	empty := api.Deal{Commits: [][]api.Point{nil, {}, {times(3)}}}
	l := []api.Deal{empty, commitsTo(10, 20, 30), {Commits: [][]api.Point{{times(100)}, nil, {}}}}
	checkKeys(t, l, []int{1}, none, none, times(3))
	checkKeys(t, l, []int{1, 2}, times(10), times(20), times(33))
	checkKeys(t, l, []int{2, 1}, times(10), times(20), times(33))
	checkKeys(t, l, []int{3}, times(100), none, none)
	checkKeys(t, l, []int{3, 1}, times(100), none, times(3))
	checkKeys(t, l, []int{1, 2, 3}, times(110), times(20), times(33))
	checkKeys(t, []api.Deal{{Commits: make([][]api.Point, 5)}}, []int{1, 1}, none, none, none, none, none)
	// What lies behind an empty list's end is none of it.
	checkKeys(t, []api.Deal{{Commits: [][]api.Point{[]api.Point{base}[:0]}}, {Commits: [][]api.Point{{base}, {base}}[:1]}}, []int{1, 2}, base)
}

// 25.1: dealers count as often as they are chosen.
func TestKeysTwice(t *testing.T) {
	l := []api.Deal{commitsTo(1, 2), commitsTo(10, 20), commitsTo(100)}
	checkKeys(t, l, []int{1, 1}, times(2), times(4))
	checkKeys(t, l, []int{1, 1, 1}, times(3), times(6))
	checkKeys(t, l, []int{2, 1, 2, 3, 3}, times(221), times(42))
	checkKeys(t, l, []int{3, 1, 3}, times(201))
	checkKeys(t, l, slices.Repeat([]int{1}, 100), times(100), times(200))
}

// 25.1: sums that are none.
func TestKeysNone(t *testing.T) {
	five, back := times(5), opposite(times(5))
	l := []api.Deal{{Commits: [][]api.Point{{five}, {none}, {back}}}, {Commits: [][]api.Point{{back}, {none}, {five, five}}}, commitsTo(1, 1, 1)}
	checkKeys(t, l, []int{1, 2}, none, none, none)
	checkKeys(t, l, []int{2, 1}, none, none, none)
	checkKeys(t, l, []int{1, 2, 3}, base, base, base)
	checkKeys(t, l, []int{3, 2, 1}, base, base, base)
	checkKeys(t, l, []int{1}, five, none, back)
	third := []api.Deal{commitsTo(2), commitsTo(3), {Commits: [][]api.Point{{back}}}}
	checkKeys(t, third, []int{1, 2, 3}, none)
	checkKeys(t, third, []int{1, 2, 3, 1}, times(2))
	checkKeys(t, third, []int{3, 1, 2, 3}, back)
}

// 25.1: pairs of numbers that are no point count as none.
func TestKeysNoPoints(t *testing.T) {
	for _, p := range wrong() {
		l := []api.Deal{{Commits: [][]api.Point{{p, base}, {p}}}, commitsTo(7, 8)}
		checkKeys(t, l, []int{1}, none, none)
		checkKeys(t, l, []int{1, 1}, none, none)
		checkKeys(t, l, []int{1, 2}, times(7), times(8))
		checkKeys(t, l, []int{2, 1}, times(7), times(8))
		checkKeys(t, l, []int{2, 1, 2}, times(14), times(16))
	}
	var all api.Deal
	for _, p := range wrong() {
		all.Commits = append(all.Commits, []api.Point{p})
	}
	checkKeys(t, []api.Deal{all, commitsTo(1, 2, 3, 4, 5, 6, 7, 8)}, []int{1, 2}, times(1), times(2), times(3), times(4), times(5), times(6), times(7), times(8))
}

// 25.1: the first points alone have a say: the other ones, and the values, may be as they like.
func TestKeysFirstPoints(t *testing.T) {
	bare := []api.Deal{{Commits: [][]api.Point{{times(3)}, {times(4)}}}, {Commits: [][]api.Point{{times(30)}, {times(40)}}}}
	full := []api.Deal{
		{Commits: [][]api.Point{slices.Concat([]api.Point{times(3)}, wrong()), {times(4), none, base}}, Values: [][]api.Num{{greatest}, nil}},
		{Commits: [][]api.Point{{times(30), opposite(times(30))}, slices.Repeat([]api.Point{times(40)}, 9)}, Values: make([][]api.Num, 9)},
	}
	for _, chosen := range [][]int{{1}, {2}, {1, 2}, {2, 1}, {1, 1, 2}} {
		want := plainKeys(bare, chosen)
		checkKeys(t, full, chosen, want...)
	}
}

// 25.1: Keys has no bound of its own: of more epochs than a batch has, and of more dealers than there are nodes.
func TestKeysMany(t *testing.T) {
	var d api.Deal
	var want []api.Point
	for i := range uint64(20) {
		d.Commits = append(d.Commits, []api.Point{times(i + 1)})
		want = append(want, times(30*(i+1)))
	}
	var chosen []int
	for i := range 30 {
		chosen = append(chosen, 30-i)
	}
	checkKeys(t, slices.Repeat([]api.Deal{d}, 30), chosen, want...)
}

// 25.1: the keys of what Deals dealt are the sums of the first coefficients, times the base.
func TestKeysDealt(t *testing.T) {
	t.Parallel()
	r := rand.New(rand.NewSource(8))
	for _, c := range committees() {
		var l []api.Deal
		var all [][][]api.Num
		for range 3 {
			polys := anyPolys(r, 2, c[1]+1)
			d, err := dkg.Deals(c[0], c[1], polys)
			if err != api.OK {
				t.Fatal(err)
			}
			l, all = append(l, d), append(all, polys)
		}
		for _, chosen := range [][]int{{1}, {1, 3}, {2, 3}, {1, 2, 3}} {
			var want []api.Point
			for epoch := range 2 {
				var secrets []api.Num
				for _, dealer := range chosen {
					secrets = append(secrets, all[dealer-1][epoch][0])
				}
				want = append(want, plainBase(sumOf(secrets)))
			}
			checkKeys(t, l, chosen, want...)
		}
	}
}

// anyDeals are deals of any shape: with few Commits and values, some of them empty.
func anyDeals(r *rand.Rand) []api.Deal {
	l := make([]api.Deal, r.Intn(5))
	for i := range l {
		for range r.Intn(4) {
			var points []api.Point
			for range r.Intn(3) {
				points = append(points, anyPoint(r))
			}
			l[i].Commits = append(l[i].Commits, points)
		}
		for range r.Intn(5) {
			var values []api.Num
			for range r.Intn(4) {
				values = append(values, rest(r))
			}
			l[i].Values = append(l[i].Values, values)
		}
	}
	return l
}

// anyPoint is one of few, so that sums are none now and then; or none of the curve.
func anyPoint(r *rand.Rand) api.Point {
	switch p := times(uint64(1 + r.Intn(3))); r.Intn(6) {
	case 0:
		return none
	case 1:
		return wrong()[r.Intn(len(wrong()))]
	case 2, 3:
		return opposite(p)
	default:
		return p
	}
}

// anyChosen are places, most of them there, in any order, some of them twice.
func anyChosen(r *rand.Rand, dealers int) []int {
	chosen := make([]int, r.Intn(6))
	for i := range chosen {
		chosen[i] = 1 + r.Intn(max(dealers, 1))
		if r.Intn(10) == 0 {
			chosen[i] = absent()[r.Intn(len(absent()))]
		}
	}
	return chosen
}

// 25.1: random rows against the plain count.
func TestKeysRandom(t *testing.T) {
	t.Parallel()
	r := rand.New(rand.NewSource(9))
	sizes, nones := map[int]int{}, 0
	for range 3000 {
		l := anyDeals(r)
		chosen := anyChosen(r, len(l))
		want := plainKeys(l, chosen)
		sizes[len(want)]++
		if slices.Contains(want, none) {
			nones++
		}
		checkKeys(t, l, chosen, want...)
	}
	if sizes[0] < 300 || sizes[1] < 300 || sizes[2] < 300 || sizes[3] < 300 || nones < 300 || nones > 2000 {
		t.Errorf("%v; %d with none", sizes, nones)
	}
}
