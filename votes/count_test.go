package votes_test

import "testing"

// 21.1: Count and Any of a value with no vote, with one and with several, beside those of other values.
func TestCount(t *testing.T) {
	for _, kind := range []int{2, 3} {
		v := made(t, 7, 2)
		for i, value := range []string{"x", "y", "x", "", "x", "y", ""} {
			w := prevote(i+1, 6, value)
			w.Kind = kind
			putAll(t, v, w)
			checkAny(t, v, kind, 6, i+1)
			checkCount(t, v, kind, 6, "x", []int{1, 1, 2, 2, 3, 3, 3}[i])
			checkCount(t, v, kind, 6, "y", []int{0, 1, 1, 1, 1, 2, 2}[i])
			checkCount(t, v, kind, 6, "", []int{0, 0, 0, 1, 1, 1, 2}[i])
			checkCount(t, v, kind, 6, "z", 0)
			checkCount(t, v, kind, 6, "xy", 0)
			checkCount(t, v, kind, 6, mixed(4096, 1), 0)
			checkCount(t, v, kind, 6, mixed(5000, 1), 0)
			checkCount(t, v, 5-kind, 6, "x", 0)
			checkAny(t, v, 5-kind, 6, 0)
			for _, round := range []int{-1, 0, 5, 7, 63, 64} {
				checkCount(t, v, kind, round, "x", 0)
				checkCount(t, v, kind, round, "", 0)
				checkAny(t, v, kind, round, 0)
			}
		}
	}
}

// 21.1: votes of the other kind, and of other rounds, are counted apart.
func TestCountApart(t *testing.T) {
	v := made(t, 4, 1)
	putAll(t, v, prevote(1, 0, "x"), prevote(2, 0, "x"), prevote(3, 0, "x"), precommit(1, 0, "x"), precommit(4, 0, ""), prevote(1, 1, "x"), prevote(4, 1, "y"), precommit(2, 63, ""), prevote(2, 63, "x"))
	for _, x := range []struct{ kind, round, ofX, ofY, ofNo, any int }{
		{2, 0, 3, 0, 0, 3}, {3, 0, 1, 0, 1, 2},
		{2, 1, 1, 1, 0, 2}, {3, 1, 0, 0, 0, 0},
		{2, 63, 1, 0, 0, 1}, {3, 63, 0, 0, 1, 1},
		{2, 2, 0, 0, 0, 0}, {2, 62, 0, 0, 0, 0}, {3, 62, 0, 0, 0, 0},
		{1, 0, 0, 0, 0, 0}, {4, 0, 0, 0, 0, 0}, {0, 0, 0, 0, 0, 0}, {5, 0, 0, 0, 0, 0}, {-2, 0, 0, 0, 0, 0},
		{2, -1, 0, 0, 0, 0}, {3, -1, 0, 0, 0, 0}, {2, 64, 0, 0, 0, 0}, {3, 64, 0, 0, 0, 0},
	} {
		checkCount(t, v, x.kind, x.round, "x", x.ofX)
		checkCount(t, v, x.kind, x.round, "y", x.ofY)
		checkCount(t, v, x.kind, x.round, "", x.ofNo)
		checkCount(t, v, x.kind, x.round, "z", 0)
		checkAny(t, v, x.kind, x.round, x.any)
	}
}

// 21.1, R1: kinds that are none, and rounds below 0 and above 63, have no vote, though all others have all.
func TestNoSuchVote(t *testing.T) {
	v := full(t, "x")
	for _, k := range farInts() {
		checkCount(t, v, k, 0, "x", 0)
		checkCount(t, v, 2, k, "x", 0)
		checkCount(t, v, k, k, "x", 0)
		checkAny(t, v, k, 63, 0)
		checkAny(t, v, 3, k, 0)
		checkNoMost(t, v, k, 1)
		checkNoMost(t, v, 2, k)
		checkNoMost(t, v, k, k)
	}
	for _, kind := range []int{0, 1, 4, 5} {
		for round := -1; round <= 64; round++ {
			checkCount(t, v, kind, round, "x", 0)
			checkAny(t, v, kind, round, 0)
			checkNoMost(t, v, kind, round)
		}
	}
	for round := range 64 {
		for _, kind := range []int{2, 3} {
			checkCount(t, v, kind, round, "x", 7)
			checkAny(t, v, kind, round, 7)
			checkMost(t, v, kind, round, "x")
		}
	}
}
