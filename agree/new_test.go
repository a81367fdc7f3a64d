package agree_test

import (
	"math"
	"slices"
	"strings"
	"testing"

	"sandglass/agree"
	"sandglass/api"
)

func checkLeader(t *testing.T, n, height, round, want int) {
	t.Helper()
	if got := agree.Leader(n, height, round); got != want {
		t.Errorf("n %d, height %d, round %d: Leader %d; want %d", n, height, round, got, want)
	}
}

// 22.1: Leaders that were counted by hand.
func TestLeader(t *testing.T) {
	for _, x := range [][4]int{
		{1, 0, 0, 1}, {1, 64, 64, 1}, {1, 3, 9, 1},
		{2, 0, 0, 1}, {2, 0, 1, 2}, {2, 1, 0, 2}, {2, 1, 1, 1}, {2, 64, 63, 2},
		{3, 0, 2, 3}, {3, 0, 3, 1}, {3, 2, 2, 2}, {3, 64, 64, 3},
		{4, 0, 0, 1}, {4, 0, 1, 2}, {4, 0, 3, 4}, {4, 0, 4, 1}, {4, 2, 3, 2}, {4, 64, 0, 1}, {4, 64, 63, 4}, {4, 1, 63, 1},
		{5, 0, 63, 4}, {5, 0, 64, 5}, {5, 64, 1, 1},
		{6, 0, 64, 5}, {6, 64, 64, 3}, {6, 1, 1, 3},
		{7, 0, 6, 7}, {7, 0, 7, 1}, {7, 64, 64, 3}, {7, 0, 63, 1}, {7, 0, 64, 2}, {7, 64, 0, 2},
	} {
		checkLeader(t, x[0], x[1], x[2], x[3])
	}
	if api.MaxNodes != 7 || api.MaxHeight != 64 || api.MaxRound != 64 || api.MaxBody != 4096 {
		t.Error("the limits are others")
	}
}

// 22.1: all n, heights and rounds that have a Leader, and those round about.
func TestLeaders(t *testing.T) {
	for n := -2; n <= 10; n++ {
		for height := -2; height <= 67; height++ {
			for round := -2; round <= 67; round++ {
				want := 0
				if n >= 1 && n <= 7 && height >= 0 && height <= 64 && round >= 0 && round <= 64 {
					want = plainLeader(n, height, round)
				}
				checkLeader(t, n, height, round, want)
			}
		}
	}
}

// 22.1, R6: one number that is far off is enough for there being no Leader.
func TestNoLeader(t *testing.T) {
	for _, k := range append(farInts(), 65, math.MinInt, math.MaxInt) {
		for n := 1; n <= 7; n++ {
			for _, other := range []int{0, 1, 63, 64} {
				checkLeader(t, n, k, other, 0)
				checkLeader(t, n, other, k, 0)
			}
			checkLeader(t, n, k, k, 0)
			checkLeader(t, n, k, -k, 0)
		}
		checkLeader(t, k, 0, 0, 0)
		checkLeader(t, k, 64, 64, 0)
		checkLeader(t, k, k, k, 0)
	}
	for _, n := range []int{0, 8, 9, 14, 64} {
		checkLeader(t, n, 0, 0, 0)
		checkLeader(t, n, 1, 63, 0)
	}
}

// checkNew holds whether there is such a part.
func checkNew(t *testing.T, n, wrong, me, height int, value string, want bool) {
	t.Helper()
	if a := agree.New(n, wrong, me, height, value); (a != nil) != want {
		t.Errorf("n %d, t %d, node %d, height %d, %d bytes: there is a part: %v", n, wrong, me, height, len(value), a != nil)
	}
}

// 22.1: each n and t that have a part, with each node and the heights at the edges; and those round about that have none.
func TestNew(t *testing.T) {
	for n := -3; n <= 12; n++ {
		for wrong := -3; wrong <= 5; wrong++ {
			is := slices.Contains(sizes(), size{n, wrong})
			for me := -2; me <= 10; me++ {
				for _, height := range []int{-2, -1, 0, 1, 5, 63, 64, 65, 66} {
					checkNew(t, n, wrong, me, height, "x", is && me >= 1 && me <= n && height >= 0 && height <= 64)
				}
			}
		}
	}
}

// 22.1: a value has 1 to 4096 bytes, whichever.
func TestNewValue(t *testing.T) {
	for _, x := range sizes() {
		for _, length := range []int{1, 2, 33, 255, 256, 4095, 4096} {
			checkNew(t, x.n, x.t, 1, 0, strings.Repeat("\x00", length), true)
			checkNew(t, x.n, x.t, x.n, 64, mixed(length, 1), true)
		}
		for _, length := range []int{0, 4097, 4098, 8192, 1 << 16} {
			checkNew(t, x.n, x.t, 1, 0, strings.Repeat("x", length), false)
			checkNew(t, x.n, x.t, x.n, 64, mixed(length, 1), false)
		}
	}
}

// 22.1, R6: one number that is far off is enough for there being no part.
func TestNewFar(t *testing.T) {
	for _, k := range append(farInts(), 65, math.MinInt, math.MaxInt) {
		for _, x := range sizes() {
			checkNew(t, x.n, k, 1, 0, "x", false)
			checkNew(t, k, x.t, 1, 0, "x", false)
			checkNew(t, x.n, x.t, k, 0, "x", false)
			checkNew(t, x.n, x.t, 1, k, "x", false)
			checkNew(t, x.n, x.t, 1, k, "", false)
		}
		checkNew(t, k, k, k, k, "x", false)
		checkNew(t, k, 0, k, 0, "x", false)
		checkNew(t, k, k/3, k, 0, "x", false)
	}
}
