package cast_test

import (
	"math"
	"testing"

	"sandglass/cast"
)

// 20.1: the quorum of all that have one, and 0 of all others near them.
func TestQuorum(t *testing.T) {
	for n := -20; n <= 20; n++ {
		for wrong := -20; wrong <= 20; wrong++ {
			if got := cast.Quorum(n, wrong); got != plainQuorum(n, wrong) {
				t.Errorf("n %d, t %d: %d; want %d", n, wrong, got, plainQuorum(n, wrong))
			}
		}
	}
}

// 20.1: n one below 3 t + 1, at MaxNodes and one above, t below 0 and above MaxFault: by their names.
func TestQuorumEdges(t *testing.T) {
	for _, x := range [][3]int{
		{0, 0, 0}, {1, 0, 1},
		{3, 1, 0}, {4, 1, 3},
		{6, 2, 0}, {7, 2, 5},
		{7, 0, 4}, {8, 0, 0}, {7, 1, 5}, {8, 1, 0}, {8, 2, 0},
		{4, -1, 0}, {1, -1, 0}, {7, -1, 0}, {7, -2, 0}, {-2, -1, 0},
		{7, 3, 0}, {9, 3, 0}, {10, 3, 0}, {11, 3, 0},
	} {
		if got := cast.Quorum(x[0], x[1]); got != x[2] {
			t.Errorf("n %d, t %d: %d; want %d", x[0], x[1], got, x[2])
		}
	}
}

// 20.1, R6: an int may be any: far ones have no quorum, alone and together, though their sums and products go round.
func TestQuorumFar(t *testing.T) {
	far := farInts()
	for _, k := range far {
		for d := -8; d <= 8; d++ {
			if cast.Quorum(k, d) != 0 || cast.Quorum(d, k) != 0 {
				t.Errorf("%d and %d have a quorum", k, d)
			}
		}
		for _, j := range far {
			if cast.Quorum(k, j) != 0 {
				t.Errorf("n %d, t %d has a quorum", k, j)
			}
		}
	}
}

// T1: any two quorums share an honest node, one can be had without the wrong nodes, and one node less would not do.
func TestQuorumsMeet(t *testing.T) {
	for _, x := range sizes() {
		q := cast.Quorum(x.n, x.t)
		if 2*q-x.n <= x.t || 2*(q-1)-x.n > x.t || q > x.n-x.t {
			t.Errorf("n %d, t %d: %d", x.n, x.t, q)
		}
	}
}

// 20.1: a part there is of each n and t that has a quorum, from 1 to n; it is told nothing.
func TestNew(t *testing.T) {
	for _, x := range sizes() {
		for from := -3; from <= 12; from++ {
			c := cast.New(x.n, x.t, from)
			if (c != nil) != (from >= 1 && from <= x.n) {
				t.Errorf("n %d, t %d, from %d: a part: %v", x.n, x.t, from, c != nil)
			}
			checkNotTold(t, c)
		}
		for _, from := range append(farInts(), 0, x.n+1, math.MinInt, math.MaxInt) {
			if cast.New(x.n, x.t, from) != nil {
				t.Errorf("n %d, t %d, from %d: a part", x.n, x.t, from)
			}
		}
	}
}

// 20.1: where Quorum has none, there is no part, whoever it is from.
func TestNewWithoutQuorum(t *testing.T) {
	for n := -10; n <= 12; n++ {
		for wrong := -5; wrong <= 5; wrong++ {
			if plainQuorum(n, wrong) != 0 {
				continue
			}
			for _, from := range []int{-1, 0, 1, 2, n - 1, n, n + 1, math.MinInt, math.MaxInt} {
				if cast.New(n, wrong, from) != nil {
					t.Errorf("n %d, t %d, from %d: a part", n, wrong, from)
				}
			}
		}
	}
	for _, k := range farInts() {
		for _, from := range []int{0, 1, 4, 7, k} {
			if cast.New(k, 0, from) != nil || cast.New(k, 1, from) != nil || cast.New(k, k, from) != nil || cast.New(4, k, from) != nil || cast.New(7, k, from) != nil {
				t.Errorf("%d, from %d: a part", k, from)
			}
		}
	}
}
