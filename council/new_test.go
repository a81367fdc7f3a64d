package council_test

import (
	"math"
	"slices"
	"testing"

	"sandglass/api"
	"sandglass/council"
)

// noneHonest tells whether no node is honest, and there are as many values: 23.1's words have no bound on n. (Of n 0 the shared test of stage 23 holds that there is no council.)
func noneHonest(n, wrong, count int) bool { return n != 0 && n == wrong && count == 0 }

func checkNew(t *testing.T, n, wrong, height int, values []string, want bool) {
	t.Helper()
	if c := council.New(n, wrong, height, values); (c != nil) != want {
		t.Errorf("n %d, t %d, height %d, %d values: there is a council: %v", n, wrong, height, len(values), c != nil)
	}
}

// 23.1: each n and t that have a council, with the heights at the edges, and with as many values as honest nodes; and those round about that have none. Where no node is honest none can be nil, so there is one whatever the height, with no value.
func TestNew(t *testing.T) {
	for n := -3; n <= 12; n++ {
		for wrong := -3; wrong <= 13; wrong++ {
			is := slices.Contains(sizes(), size{n, wrong})
			for count := range 16 {
				for _, height := range []int{-2, -1, 0, 1, 5, 63, 64, 65, 66} {
					checkNew(t, n, wrong, height, owns(count), is && count == n-wrong && height >= 0 && height <= 64 || noneHonest(n, wrong, count))
				}
			}
			checkNew(t, n, wrong, 0, nil, noneHonest(n, wrong, 0))
			checkNew(t, n, wrong, 0, []string{}, noneHonest(n, wrong, 0))
		}
	}
	if api.MaxNodes != 7 || api.MaxFault != 2 || api.MaxHeight != 64 || api.MaxBody != 4096 {
		t.Error("the limits are others")
	}
}

// 23.1: every height.
func TestHeights(t *testing.T) {
	for _, x := range sizes() {
		for height := -70; height <= 140; height++ {
			checkNew(t, x.n, x.t, height, owns(x.honest()), height >= 0 && height <= 64)
		}
	}
}

// 23.1, R6: one number that is far off is enough for there being no council, also where n - t goes round and is as many as there are values; but where no node is honest.
func TestFarOff(t *testing.T) {
	for _, k := range append(farInts(), math.MinInt, math.MaxInt) {
		for count := range 9 {
			l := owns(count)
			checkNew(t, k, 0, 0, l, false)
			checkNew(t, 7, k, 0, l, false)
			checkNew(t, k, k, 0, l, noneHonest(k, k, count))
			checkNew(t, k+count, k, 0, l, noneHonest(k, k, count))
			checkNew(t, k, k-count, 0, l, noneHonest(k, k, count))
			checkNew(t, count-k, -k, 0, l, noneHonest(-k, -k, count))
			checkNew(t, count, 0, k, l, false)
			checkNew(t, k, k, k, l, noneHonest(k, k, count))
			checkNew(t, 7, 7, k, l, count == 0)
		}
	}
	checkNew(t, math.MinInt, math.MaxInt, 0, nil, false)
	checkNew(t, math.MaxInt, math.MinInt, 0, nil, false)
	checkNew(t, math.MinInt, math.MaxInt, 0, owns(1), false)
	checkNew(t, math.MinInt+3, math.MaxInt, 0, owns(4), false)
}

// 23.1: one value that agree's New does not take is enough, at the first node, at those between and at the last.
func TestValues(t *testing.T) {
	for _, x := range sizes() {
		for k := range x.honest() {
			for length, is := range map[int]bool{0: false, 1: true, 2: true, 4095: true, 4096: true, 4097: false, 8192: false, 1 << 17: false} {
				l := owns(x.honest())
				l[k] = mixed(length, 3)
				checkNew(t, x.n, x.t, 0, l, is)
				checkNew(t, x.n, x.t, 64, l, is)
				checkNew(t, x.n, x.t, 65, l, false)
				// One too many, and one too few.
				checkNew(t, x.n, x.t, 0, append(slices.Clone(l), "more"), false)
				checkNew(t, x.n, x.t, 0, l[:len(l)-1], false)
				checkNew(t, x.n, x.t, 0, l[1:], false)
			}
		}
		same := make([]string, x.honest())
		checkNew(t, x.n, x.t, 0, same, false)
		for k := range same {
			same[k] = mixed(4096, 1)
		}
		checkNew(t, x.n, x.t, 0, same, true)
	}
}

// checkAllWait holds that all nodes, but that one, wait for a proposal of their round: they alone say a prevote, when they have waited for long enough.
func checkAllWait(t *testing.T, c *council.Council, x size, but int) {
	t.Helper()
	for k := 1; k <= x.honest(); k++ {
		more := x.honest()
		if k == but {
			more = 0
		}
		checkTimeout(t, c, k, 1, more)
	}
}

// 23.1: behind New the first Leader's proposal is under way to each honest node, in order of nodes, and nothing else; if that is wrong, nothing at all.
func TestFirst(t *testing.T) {
	for _, x := range sizes() {
		for height := 0; height <= 64; height++ {
			c := whole(t, x, height)
			checkDecided(t, c, "")
			if leader(x.n, height, 0) > x.honest() {
				checkWaiting(t, c, 0)
				if c.Deliver(0) || c.Lose(0) {
					t.Error("one goes out")
				}
				checkAllWait(t, c, x, 0)
				continue
			}
			checkWaiting(t, c, x.honest())
			checkAllWait(t, c, x, 0)
			for k := 1; k <= x.honest(); k++ {
				c := whole(t, x, height)
				checkDeliver(t, c, k-1, x.honest()-1+x.honest())
				loseAll(t, c)
				checkAllWait(t, c, x, k)
			}
			c = whole(t, x, height)
			deliverAll(t, c)
			checkDecided(t, c, own(leader(x.n, height, 0)), nodesTo(x.honest())...)
		}
	}
}

func nodesTo(last int) []int {
	var l []int
	for k := 1; k <= last; k++ {
		l = append(l, k)
	}
	return l
}

// toRound lets all go to that round, and all be lost that is said ahead of it.
func toRound(t *testing.T, c *council.Council, x size, round int) {
	t.Helper()
	loseAll(t, c)
	for r := range round {
		loseAll(t, c)
		for k := 1; k <= x.honest(); k++ {
			if !c.Timeout(k, 3) {
				t.Errorf("round %d: no node %d", r, k)
			}
		}
	}
}

// 23.1: each node has the value that was handed in at its place: where it leads, that is decided.
func TestOwnValue(t *testing.T) {
	for _, x := range sizes() {
		for _, height := range []int{0, 1, 6, 13, 64} {
			for k := 1; k <= x.n; k++ {
				// Far enough from round 0, so that its proposal can't be one of those that are there at first.
				round := x.n
				for leader(x.n, height, round) != k {
					round++
				}
				c := whole(t, x, height)
				toRound(t, c, x, round)
				deliverAll(t, c)
				if k <= x.honest() {
					checkDecided(t, c, own(k), nodesTo(x.honest())...)
				} else {
					checkDecided(t, c, "")
				}
			}
		}
	}
}
