package votes_test

import (
	"math"
	"testing"

	"sandglass/votes"
)

// 21.1: there are votes of all n and t that may be, and of none near them; they are none yet.
func TestNew(t *testing.T) {
	for n := -20; n <= 20; n++ {
		for wrong := -20; wrong <= 20; wrong++ {
			v := votes.New(n, wrong)
			if (v != nil) != isSize(n, wrong) {
				t.Errorf("n %d, t %d: votes: %v", n, wrong, v != nil)
			}
			if isSize(n, wrong) {
				checkEmpty(t, v)
			}
		}
	}
}

// 21.1: n one below 3 t + 1, at MaxNodes and one above, t below 0 and above MaxFault: by their numbers.
func TestNewEdges(t *testing.T) {
	for _, x := range []struct {
		n, t int
		is   bool
	}{
		{0, 0, false}, {1, 0, true}, {-1, 0, false},
		{3, 1, false}, {4, 1, true}, {1, 1, false},
		{6, 2, false}, {7, 2, true}, {5, 2, false},
		{7, 0, true}, {8, 0, false}, {7, 1, true}, {8, 1, false}, {8, 2, false},
		{4, -1, false}, {1, -1, false}, {7, -1, false}, {7, -2, false}, {-2, -1, false}, {-5, -2, false},
		{7, 3, false}, {9, 3, false}, {10, 3, false}, {11, 3, false},
		{math.MaxInt, 0, false}, {math.MinInt, 0, false}, {math.MaxInt, 2, false}, {math.MinInt, 2, false},
		{7, math.MaxInt, false}, {7, math.MinInt, false}, {1, math.MaxInt, false}, {1, math.MinInt, false},
		{math.MaxInt, math.MaxInt, false}, {math.MinInt, math.MinInt, false}, {math.MaxInt, math.MinInt, false}, {math.MinInt, math.MaxInt, false},
	} {
		if v := votes.New(x.n, x.t); (v != nil) != x.is {
			t.Errorf("n %d, t %d: votes: %v", x.n, x.t, v != nil)
		}
	}
}

// 21.1, R6: an int may be any: of far ones there are no votes, alone and together, though their sums and products go round.
func TestNewFar(t *testing.T) {
	far := farInts()
	for _, k := range far {
		for d := -8; d <= 8; d++ {
			if votes.New(k, d) != nil || votes.New(d, k) != nil {
				t.Errorf("%d and %d: votes", k, d)
			}
		}
		for _, j := range far {
			if votes.New(k, j) != nil {
				t.Errorf("n %d, t %d: votes", k, j)
			}
		}
	}
}

// R1: of no votes none counts, none is there, and no round is ahead.
func TestNoVotes(t *testing.T) {
	for _, v := range []*votes.Votes{nil, votes.New(3, 1), votes.New(0, 0), votes.New(8, 2)} {
		for from := -1; from <= 8; from++ {
			for _, round := range []int{-1, 0, 5, 63, 64, math.MinInt, math.MaxInt} {
				for _, value := range []string{"", "x", mixed(4096, 1), mixed(4097, 1)} {
					putNone(t, v, prevote(from, round, value), precommit(from, round, value))
				}
			}
		}
		checkEmpty(t, v)
		for _, k := range farInts() {
			checkCount(t, v, k, 0, "x", 0)
			checkCount(t, v, 2, k, "", 0)
			checkAny(t, v, k, k, 0)
			checkAny(t, v, 2, k, 0)
			checkNoMost(t, v, k, k)
			checkNoMost(t, v, 3, k)
			checkAhead(t, v, k, -1)
		}
	}
}
