package council_test

import (
	"testing"

	"sandglass/council"
)

// 23.1: each honest node has one; no other does, and nothing changes then.
func TestTimeoutNode(t *testing.T) {
	for _, x := range sizes() {
		for _, node := range anyInts() {
			c := whole(t, x, 0)
			loseAll(t, c)
			if node >= 1 && node <= x.honest() {
				checkTimeout(t, c, node, 1, x.honest())
				loseAll(t, c)
				checkAllWait(t, c, x, node)
				continue
			}
			for step := -1; step <= 5; step++ {
				if c.Timeout(node, step) {
					t.Errorf("n %d, t %d: Timeout of %d", x.n, x.t, node)
				}
			}
			checkWaiting(t, c, 0)
			checkAllWait(t, c, x, 0)
		}
	}
}

// atStep is a council of four in which node k is in that step of round 0, and nothing is under way; node 2 leads round 1.
func atStep(t *testing.T, k, step int) *council.Council {
	t.Helper()
	c := made(t, 4, 1, 0, "a", "b", "c")
	loseAll(t, c)
	for s := 1; s < step; s++ {
		checkTimeout(t, c, k, s, 3)
		loseAll(t, c)
	}
	return c
}

// 23.1: each of the three steps, in each step: what is said behind it.
func TestTimeoutSteps(t *testing.T) {
	for k := 1; k <= 3; k++ {
		for in := 1; in <= 3; in++ {
			for step := 1; step <= 3; step++ {
				c := atStep(t, k, in)
				switch {
				case step == 3:
					// The next round begins; node 2 proposes.
					more := 0
					if k == 2 {
						more = 3
					}
					checkTimeout(t, c, k, 3, more)
					loseAll(t, c)
					// It waits for a proposal now, whatever it did ahead.
					checkTimeout(t, c, k, 1, 3)
				case step == in:
					checkTimeout(t, c, k, step, 3)
					// Only once.
					checkTimeout(t, c, k, step, 0)
				default:
					checkTimeout(t, c, k, step, 0)
					if in < 3 {
						checkTimeout(t, c, k, in, 3)
					}
				}
				checkDecided(t, c, "")
				// The others are where they were.
				loseAll(t, c)
				checkAllWait(t, c, size{4, 1}, k)
				if t.Failed() {
					t.Fatalf("node %d in step %d, timeout of %d", k, in, step)
				}
			}
		}
	}
}

// 23.1: of a step that is none of the three it is true of an honest node, and nothing changes.
func TestTimeoutOtherSteps(t *testing.T) {
	var others []int
	for _, step := range anyInts() {
		if step < 1 || step > 3 {
			others = append(others, step)
		}
	}
	for in := 1; in <= 3; in++ {
		for k := 1; k <= 3; k++ {
			c := atStep(t, k, in)
			for _, step := range others {
				checkTimeout(t, c, k, step, 0)
			}
			if in < 3 {
				checkTimeout(t, c, k, in, 3)
			}
			checkTimeout(t, c, k, 2, map[int]int{1: 3}[in])
			loseAll(t, c)
			checkAllWait(t, c, size{4, 1}, k)
		}
	}
	// A whole council goes on as if they had not been.
	c := made(t, 4, 1, 0, "a", "b", "c")
	for left := 21; left > 0; left-- {
		for k, step := range others {
			checkTimeout(t, c, 1+k%3, step, 0)
		}
		if !c.Deliver(0) {
			t.Error("nothing goes out")
		}
	}
	checkWaiting(t, c, 0)
	checkDecided(t, c, "a", 1, 2, 3)
}

// 23.1: it is one of the node's own round, from the first to the last. A node alone leads all rounds, so that it proposes at each one that begins.
func TestTimeoutRounds(t *testing.T) {
	c := made(t, 1, 0, 0, "a")
	for round := 1; round <= 63; round++ {
		checkTimeout(t, c, 1, 3, 1)
		checkWaiting(t, c, round+1)
	}
	for range 3 {
		checkTimeout(t, c, 1, 3, 0)
	}
	// In the last one it still waits for a proposal, and then for prevotes.
	checkTimeout(t, c, 1, 2, 0)
	checkTimeout(t, c, 1, 1, 1)
	checkTimeout(t, c, 1, 2, 1)
	checkTimeout(t, c, 1, 2, 0)
	checkTimeout(t, c, 1, 3, 0)
	checkDecided(t, c, "")
}

// 23.1: nodes in other rounds have each one of their own.
func TestTimeoutOwnRound(t *testing.T) {
	for _, x := range sizes() {
		c := whole(t, x, 0)
		loseAll(t, c)
		// Node k goes to round 2 k.
		for k := 1; k <= x.honest(); k++ {
			for range 2 * k {
				c.Timeout(k, 3)
				loseAll(t, c)
			}
		}
		for k := x.honest(); k >= 1; k-- {
			checkTimeout(t, c, k, 1, x.honest())
			checkTimeout(t, c, k, 2, x.honest())
			loseAll(t, c)
		}
		// The next one of them leads a round or not, as the rounds tell.
		for k := 1; k <= x.honest(); k++ {
			more := 0
			if leader(x.n, 0, 2*k+1) == k {
				more = x.honest()
			}
			checkTimeout(t, c, k, 3, more)
		}
	}
}

// 23.1: what is said behind a timeout is under way to all, behind all that is. Here the first proposal is lost, all say prevotes and precommits of none, and decide what the next Leader proposes.
func TestTimeoutSaid(t *testing.T) {
	c := made(t, 4, 1, 0, "a", "b", "c")
	loseAll(t, c)
	for k := 1; k <= 3; k++ {
		checkTimeout(t, c, k, 1, 3)
	}
	// Node 1's and node 2's prevotes, then node 3's: the third one, behind which each says its precommit.
	for _, then := range []int{8, 7, 6, 5, 4, 3, 5, 7, 9} {
		checkDeliver(t, c, 0, then)
	}
	for left := 8; left >= 0; left-- {
		checkDeliver(t, c, 0, left)
	}
	checkDecided(t, c, "")
	checkTimeout(t, c, 1, 3, 0)
	checkTimeout(t, c, 2, 3, 3)
	// Node 3 has not begun round 1: the proposal waits there.
	for _, then := range []int{5, 7, 6} {
		checkDeliver(t, c, 0, then)
	}
	checkTimeout(t, c, 3, 3, 3)
	deliverAll(t, c)
	checkDecided(t, c, "b", 1, 2, 3)
}

// 23.1: of a timeout, too, the ones to nodes 1, 2, 3 lie in that order: node k alone gets the three prevotes of none.
func TestTimeoutOrder(t *testing.T) {
	for k := 1; k <= 3; k++ {
		c := made(t, 4, 1, 0, "a", "b", "c")
		// Behind the proposals.
		for j := 1; j <= 3; j++ {
			checkTimeout(t, c, j, 1, 3)
		}
		checkDeliver(t, c, 3+k-1, 11)
		checkDeliver(t, c, 5+k-1, 10)
		checkDeliver(t, c, 7+k-1, 9+3)
		// The proposals come too late for a prevote.
		for left := 11; left >= 9; left-- {
			checkDeliver(t, c, 0, left)
		}
	}
}

// 23.1: who has decided has one, too; nothing is said.
func TestTimeoutDecided(t *testing.T) {
	for _, x := range sizes() {
		c := whole(t, x, 0)
		deliverAll(t, c)
		for k := -1; k <= x.n+1; k++ {
			for step := 0; step <= 4; step++ {
				if is := c.Timeout(k, step); is != (k >= 1 && k <= x.honest()) {
					t.Errorf("node %d, step %d: %v", k, step, is)
				}
			}
		}
		checkWaiting(t, c, 0)
		checkDecided(t, c, own(1), nodesTo(x.honest())...)
	}
}

// 22.3, 23.1: a timeout can be the last that is needed: node 3 has all votes of round 1 and its proposal already, and more than one word is said at once.
func TestTimeoutBehindVotes(t *testing.T) {
	c := made(t, 4, 1, 0, "a", "b", "c")
	loseAll(t, c)
	// Only node 3 stays in round 0.
	checkTimeout(t, c, 1, 3, 0)
	checkTimeout(t, c, 2, 3, 3)
	// The proposal b to 1, 2, 3: node 3 keeps it.
	checkDeliver(t, c, 0, 5)
	checkDeliver(t, c, 0, 7)
	checkDeliver(t, c, 0, 6)
	// Node 1's prevote to it; one node is not enough for that round.
	checkDeliver(t, c, 2, 5)
	checkForge(t, c, 3, prevote(4, 0, "b"), true)
	checkDeliver(t, c, 5, 5)
	checkTimeout(t, c, 3, 1, 3)
	// In round 1 it says its prevote of b at once.
	checkTimeout(t, c, 3, 3, 3)
	loseAll(t, c)
	checkTimeout(t, c, 3, 1, 0)
	checkTimeout(t, c, 3, 2, 3)
}
