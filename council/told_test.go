package council_test

import (
	"testing"

	"sandglass/api"
	"sandglass/council"
)

// 23.1: each node ahead of its decision and behind it; others decide by themselves.
func TestDecided(t *testing.T) {
	for _, x := range sizes() {
		for k := 1; k <= x.honest(); k++ {
			c := said(t, x, true)
			for j := range x.most() {
				checkDecided(t, c, "")
				checkDeliver(t, c, j*x.honest()+k-1-j, c.Waiting()-1)
			}
			checkDecided(t, c, own(1), k)
			deliverAll(t, c)
			checkDecided(t, c, own(1), nodesTo(x.honest())...)
		}
	}
}

// 23.1: of no such node nothing, ahead of decisions and behind them.
func TestDecidedNobody(t *testing.T) {
	for _, x := range sizes() {
		c := whole(t, x, 0)
		for range 2 {
			for _, node := range anyInts() {
				if node >= 1 && node <= x.honest() {
					continue
				}
				if value, is := c.Decided(node); value != "" || is {
					t.Errorf("n %d, t %d: node %d decided %q, %v", x.n, x.t, node, value, is)
				}
			}
			deliverAll(t, c)
		}
	}
}

// 23.1: a decision stays, whatever comes behind it, also what would have made others decide otherwise.
func TestDecisionStays(t *testing.T) {
	c := said(t, size{4, 1}, true)
	for _, i := range []int{0, 2, 4} {
		c.Deliver(i)
	}
	checkDecided(t, c, own(1), 1)
	loseAll(t, c)
	for round := range 5 {
		for kind := 1; kind <= 3; kind++ {
			w := api.Word{Kind: kind, From: 4, Round: round, Value: "z"}
			if kind == 1 {
				w.Valid = -1
			}
			checkForge(t, c, 1, w, true)
			checkDeliver(t, c, 0, 0)
		}
		for step := 0; step <= 4; step++ {
			checkTimeout(t, c, 1, step, 0)
		}
		checkDecided(t, c, own(1), 1)
	}
	// What goes to it is under way, and goes out, as ever.
	checkTimeout(t, c, 2, 3, 3)
	checkDeliver(t, c, 0, 2)
	checkDecided(t, c, own(1), 1)
}

// 23.1: one node decides behind the other; who has decided says nothing any more, and the rest does.
func TestOneAfterTheOther(t *testing.T) {
	c := made(t, 2, 0, 0, "a", "b")
	for range 6 {
		c.Deliver(0)
	}
	// C1>1 C1>2 C2>1 C2>2
	checkWaiting(t, c, 4)
	checkDeliver(t, c, 0, 3)
	checkDecided(t, c, "")
	checkDeliver(t, c, 1, 2)
	checkDecided(t, c, "a", 1)
	checkTimeout(t, c, 1, 3, 0)
	checkTimeout(t, c, 2, 2, 0)
	checkDeliver(t, c, 0, 1)
	checkDecided(t, c, "a", 1)
	checkDeliver(t, c, 0, 0)
	checkDecided(t, c, "a", 1, 2)
}

// loseFirst lets the first ones go out.
func loseFirst(t *testing.T, c *council.Council, count int) {
	t.Helper()
	for range count {
		if !c.Lose(0) {
			t.Error("nothing goes out")
		}
	}
}

// checkPrevotes holds that in a quiet council just node 1's prevotes of that value to nodes 1 to last are under way, in this order, and no other node has taken anything. Each is delivered alone, when all nodes have two prevotes of the value: who says a precommit behind it is who got it.
func checkPrevotes(t *testing.T, build func() *council.Council, value string, last int) {
	t.Helper()
	checkWaiting(t, build(), last)
	for k := 1; k <= last; k++ {
		c := build()
		only(c, k-1)
		for _, j := range []int{2, 3} {
			if value == "" {
				checkTimeout(t, c, j, 1, 3)
			} else {
				checkForge(t, c, j, propose(4, 0, -1, value), true)
				checkDeliver(t, c, -1, c.Waiting()-1+3)
			}
		}
		// Node 2's prevotes to all, node 4's to all; node 3's to none.
		for left := 6; left >= 4; left-- {
			checkDeliver(t, c, 1, left)
		}
		for left := 3; left >= 1; left-- {
			checkLose(t, c, 1, left)
		}
		for j := 1; j <= 3; j++ {
			checkForge(t, c, j, prevote(4, 0, value), true)
			checkDeliver(t, c, 1, 1)
		}
		checkDeliver(t, c, 0, 3)
		for j := 1; j <= 3; j++ {
			more := 3
			if j == k {
				more = 0
			}
			checkTimeout(t, c, j, 2, more)
		}
		if t.Failed() {
			t.Fatalf("node %d of %d", k, last)
		}
	}
}

// The check itself, where there is room for all.
func TestPrevotes(t *testing.T) {
	checkPrevotes(t, func() *council.Council {
		c := quiet(t)
		checkTimeout(t, c, 1, 1, 3)
		return c
	}, "", 3)
	checkPrevotes(t, func() *council.Council {
		c := quiet(t)
		checkForge(t, c, 1, propose(4, 0, -1, "z"), true)
		checkDeliver(t, c, 0, 3)
		return c
	}, "z", 3)
}

// 23.1: what a node says beyond 4096 under way is lost, and what is not beyond it is not: it goes to the first nodes, as far as there is room. Here behind a timeout.
func TestRoomTimeout(t *testing.T) {
	for room := range 6 {
		checkPrevotes(t, func() *council.Council {
			c := filled(t, 4096-room)
			checkTimeout(t, c, 1, 1, min(room, 3))
			loseFirst(t, c, 4096-room)
			// What was lost does not come when there is room again.
			checkTimeout(t, c, 1, 1, 0)
			return c
		}, "", min(room, 3))
	}
}

// 23.1: likewise behind Deliver, where the one that goes out makes room for one more.
func TestRoomDeliver(t *testing.T) {
	for room := range 5 {
		for _, at := range []int{0, 7, -1} {
			checkPrevotes(t, func() *council.Council {
				c := quiet(t)
				for k := range 4096 - room {
					w := api.Word{}
					if k == (at+4096-room)%(4096-room) {
						w = propose(4, 0, -1, "z")
					}
					checkForge(t, c, 1, w, true)
				}
				checkDeliver(t, c, at, 4095-room+min(room+1, 3))
				loseFirst(t, c, 4095-room)
				return c
			}, "z", min(room+1, 3))
		}
	}
}

// 23.1: of several words that a node says at once the first ones go to all, as far as there is room.
func TestRoomSeveralWords(t *testing.T) {
	for room := range 8 {
		c := quiet(t)
		for k := 1; k <= 2; k++ {
			checkForge(t, c, k, propose(4, 0, -1, "z"), true)
			checkDeliver(t, c, -1, 3*k)
		}
		// Nodes 1 and 2 have two prevotes of z, node 3 has three, and no proposal.
		for left := 5; left >= 0; left-- {
			checkDeliver(t, c, 0, left)
		}
		checkForge(t, c, 3, prevote(4, 0, "z"), true)
		checkDeliver(t, c, 0, 0)
		checkForge(t, c, 3, propose(4, 0, -1, "z"), true)
		for c.Waiting() < 4096-room {
			checkForge(t, c, 1, api.Word{}, true)
		}
		// It says a prevote and a precommit.
		count := min(room+1, 6)
		checkDeliver(t, c, 0, 4095-room+count)
		loseFirst(t, c, 4095-room)
		for k := range count {
			then := c.Waiting() - 1
			if k < 2 {
				// The third prevote of node 1, and of node 2.
				then += 3
			}
			checkDeliver(t, c, 0, then)
		}
		// Who got node 3's precommit decides by those of nodes 1 and 2.
		checkDecided(t, c, "")
		deliverAll(t, c)
		checkDecided(t, c, "z", nodesTo(count-3)...)
		if t.Failed() {
			t.Fatalf("room for %d", room)
		}
	}
}

// 23.1: Waiting is what is under way, behind each deed, and asking changes nothing.
func TestWaiting(t *testing.T) {
	c := made(t, 4, 1, 0, "a", "b", "c")
	for _, x := range []struct {
		d    deed
		then int
	}{
		{deed{kind: "lose", i: 1}, 2},
		{deed{kind: "deliver", i: 1}, 4}, // node 3 says a prevote
		{deed{kind: "forge", i: 2, w: prevote(4, 0, "a")}, 5},
		{deed{kind: "forge", i: 4, w: prevote(4, 0, "a")}, 5},
		{deed{kind: "deliver", i: 4}, 4},
		{deed{kind: "timeout", i: 2, step: 1}, 7},
		{deed{kind: "timeout", i: 2, step: 1}, 7},
		{deed{kind: "timeout", i: 4, step: 1}, 7},
		{deed{kind: "timeout", i: 3, step: 2}, 10},
		{deed{kind: "lose", i: -1}, 9},
		{deed{kind: "timeout", i: 2, step: 3}, 12}, // it leads round 1
		{deed{kind: "deliver", i: 11}, 11},         // node 3 is not there yet
		{deed{kind: "timeout", i: 3, step: 3}, 14},
		{deed{kind: "deliver", i: 0}, 16}, // node 1 still is in round 0
	} {
		x.d.do(c)
		for range 3 {
			checkWaiting(t, c, x.then)
			checkDecided(t, c, "")
		}
	}
}
