package gather_test

import (
	"math/rand"
	"slices"
	"testing"

	"sandglass/api"
	"sandglass/gather"
)

// points are n of them, all on the curve.
func points(n int) []api.Point {
	l := make([]api.Point, max(n, 0))
	for i := range l {
		l[i] = plainBase(api.Num{uint64(3*i + 2)})
	}
	return l
}

// checkNew holds that there is a gathering, or none, and that it begins with nothing.
func checkNew(t *testing.T, faults int, l [][]api.Point, want bool) {
	t.Helper()
	if plain := plainNew(faults, l) != nil; plain != want {
		t.Errorf("the plain New of t %d, %v is %t", faults, l, plain)
	}
	g := gather.New(faults, l)
	if is := g != nil; is != want {
		t.Errorf("New of t %d, %v: %t", faults, l, is)
	}
	for dealer := -1; dealer <= len(l); dealer++ {
		if got := g.Have(dealer); got != 0 {
			t.Errorf("New of t %d, %v: Have of %d is %d", faults, l, dealer, got)
		}
	}
	if want {
		checkKey(t, g, api.Num{}, api.ErrShare)
	} else {
		checkKey(t, g, api.Num{}, api.ErrArg)
	}
}

// 27.1: t is 0 to MaxFault, of as many points as suit it.
func TestNewFaults(t *testing.T) {
	for faults := -4; faults <= 9; faults++ {
		for dealers := 1; dealers <= 3; dealers++ {
			checkNew(t, faults, slices.Repeat([][]api.Point{points(faults + 1)}, dealers), faults == 0 || faults == 1 || faults == 2)
		}
	}
	for _, faults := range append([]int{-1, 3}, farInts()...) {
		for n := range 6 {
			checkNew(t, faults, [][]api.Point{points(n)}, false)
		}
		checkNew(t, faults, nil, false)
	}
	// t + 1 of the greatest int wraps to the least one, and that of -1 is the length of an empty list.
	checkNew(t, -1, [][]api.Point{{}}, false)
	checkNew(t, -1, [][]api.Point{nil, {}}, false)
}

// 27.1: there is a dealer.
func TestNewDealers(t *testing.T) {
	for faults := range 3 {
		checkNew(t, faults, nil, false)
		checkNew(t, faults, [][]api.Point{}, false)
		for _, dealers := range []int{1, 2, 3, 7, 8, 20, 255, 256, 257} {
			checkNew(t, faults, slices.Repeat([][]api.Point{points(faults + 1)}, dealers), true)
		}
	}
}

// 27.1: each dealer has t + 1 points, wherever it stands.
func TestNewPoints(t *testing.T) {
	for faults := range 3 {
		for _, n := range []int{0, 1, 2, 3, 4, 5, faults + 257} {
			for dealers := 1; dealers <= 4; dealers++ {
				for place := range dealers {
					l := slices.Repeat([][]api.Point{points(faults + 1)}, dealers)
					l[place] = points(n)
					checkNew(t, faults, l, n == faults+1)
				}
			}
		}
		l := slices.Repeat([][]api.Point{points(faults + 1)}, 2)
		checkNew(t, faults, append(l, nil), false)
		checkNew(t, faults, append([][]api.Point{nil}, l...), false)
		// One point less and one more are not made up for by each other.
		checkNew(t, faults, [][]api.Point{points(faults), points(faults + 2)}, false)
		checkNew(t, faults, [][]api.Point{points(faults + 2), points(faults)}, false)
	}
}

// 27.1: all t with all that a few dealers may have.
func TestNewAll(t *testing.T) {
	for faults := -1; faults <= 4; faults++ {
		for a := range 6 {
			checkNew(t, faults, [][]api.Point{points(a)}, faults >= 0 && faults <= 2 && a == faults+1)
			for b := range 6 {
				checkNew(t, faults, [][]api.Point{points(a), points(b)}, faults >= 0 && faults <= 2 && a == faults+1 && b == a)
			}
		}
	}
}

// 27.1: whatever the points are: not on the curve, none, the same one twice.
func TestNewAnyPoints(t *testing.T) {
	for faults := range 3 {
		for _, p := range append(wrong(), none, base) {
			for _, n := range []int{faults, faults + 1, faults + 2} {
				checkNew(t, faults, [][]api.Point{slices.Repeat([]api.Point{p}, n)}, n == faults+1)
				checkNew(t, faults, [][]api.Point{points(faults + 1), slices.Repeat([]api.Point{p}, n)}, n == faults+1)
			}
		}
		// The same dealer twice is two dealers.
		x := newPair(t, faults, slices.Repeat(commits(short(rand.New(rand.NewSource(1)), faults+1)), 2))
		if len(x.p.points) != 2 {
			t.Errorf("%d dealers", len(x.p.points))
		}
	}
}
