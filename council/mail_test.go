package council_test

import (
	"math"
	"slices"
	"strconv"
	"testing"

	"sandglass/council"
)

// proposals are count letters of node 4's, which leads round 0 of the quiet council: each has a value of its own; by turns they go to nodes 1 to 3.
func proposals(count int) []letter {
	var l []letter
	for k := range count {
		l = append(l, letter{1 + k%3, propose(4, 0, -1, "z"+strconv.Itoa(k))})
	}
	return l
}

// forged is the quiet council with these under way.
func forged(t *testing.T, l []letter) *council.Council {
	t.Helper()
	c := quiet(t)
	for _, x := range l {
		checkForge(t, c, x.to, x.w, true)
	}
	return c
}

// checkTaken holds that just this proposal of round 0 was taken in the quiet council, by its node, of which the prevote alone is under way: the other nodes get the same one, and all decide its value. They do not, if it was another one, or another node has it.
func checkTaken(t *testing.T, c *council.Council, want letter) {
	t.Helper()
	checkWaiting(t, c, 3)
	for k := 1; k <= 3; k++ {
		if k != want.to {
			checkForge(t, c, k, want.w, true)
		}
	}
	deliverAll(t, c)
	checkDecided(t, c, want.w.Value, 1, 2, 3)
}

// checkMail holds that just these proposals are under way, in this order, in a quiet council of which nobody has taken one: each is delivered alone.
func checkMail(t *testing.T, build func() *council.Council, want []letter) {
	t.Helper()
	checkWaiting(t, build(), len(want))
	for k := range want {
		c := build()
		only(c, k)
		if !c.Deliver(0) {
			t.Error("nothing goes out")
		}
		checkTaken(t, c, want[k])
	}
}

// placesOf are ints round about count, and far off, each with the place that it is of so many.
func placesOf(count int) map[int]int {
	l := map[int]int{}
	for place := range count {
		for turn := -3; turn <= 3; turn++ {
			l[place+turn*count] = place
		}
	}
	for _, i := range append(farInts(), math.MinInt, math.MaxInt) {
		// What is left of its upper part, and of its lowest bit, so that nothing is below 0 or goes round.
		half := uint64(i) >> 1
		if i < 0 {
			half = uint64(-(i + 1)) >> 1
		}
		rest := (int(half%uint64(count))*2 + lowest(i)) % count
		if i < 0 {
			rest = count - 1 - rest
		}
		l[i] = rest
	}
	return l
}

// lowest is the lowest bit of i, or, of one below 0, of what -1 - i is.
func lowest(i int) int {
	if i < 0 {
		i = -1 - i
	}
	return i & 1
}

// The places, against some that were worked out by hand.
func TestPlaces(t *testing.T) {
	for count, x := range map[int]map[int]int{
		1: {0: 0, 1: 0, -1: 0, math.MaxInt: 0, math.MinInt: 0},
		2: {0: 0, 1: 1, -1: 1, -2: 0, math.MaxInt: 1, math.MinInt: 0},
		3: {2: 2, 3: 0, -1: 2, -3: 0, -4: 2, math.MaxInt: 1, math.MinInt: 1, math.MinInt + 1: 2},
		5: {7: 2, -2: 3, -6: 4, math.MaxInt: 2, math.MaxInt - 1: 1, math.MinInt: 2, 4096: 1, 4095: 0},
		7: {-7: 0, -8: 6, 20: 6, math.MaxInt: 0, math.MinInt: 6, math.MinInt + 1: 0},
	} {
		for i, want := range x {
			if got, is := placesOf(count)[i]; got != want || !is {
				t.Errorf("%d of %d: %d, %v; want %d", i, count, got, is, want)
			}
		}
	}
}

// 23.1: Lose lets the one at i modulo their number go out, whatever int i is, and the others keep their order.
func TestLose(t *testing.T) {
	for count := 1; count <= 7; count++ {
		l := proposals(count)
		for i, place := range placesOf(count) {
			build := func() *council.Council {
				c := forged(t, l)
				checkLose(t, c, i, count-1)
				return c
			}
			checkMail(t, build, slices.Delete(slices.Clone(l), place, place+1))
			if t.Failed() {
				t.Fatalf("%d of %d", i, count)
			}
		}
	}
}

// 23.1: Deliver lets the one at i modulo their number be taken, by the node that it goes to.
func TestDeliver(t *testing.T) {
	for count := 1; count <= 7; count++ {
		l := proposals(count)
		for i, place := range placesOf(count) {
			c := forged(t, l)
			checkDeliver(t, c, i, count-1+3)
			for left := count - 2; left >= 0; left-- {
				checkLose(t, c, 0, left+3)
			}
			checkTaken(t, c, l[place])
			if t.Failed() {
				t.Fatalf("%d of %d", i, count)
			}
		}
	}
}

// 23.1: behind Deliver the others keep their order; here one goes out that does nothing.
func TestDeliverKeepsOrder(t *testing.T) {
	for count := 1; count <= 6; count++ {
		l := proposals(count)
		for place := range count + 1 {
			build := func() *council.Council {
				c := forged(t, slices.Insert(slices.Clone(l), place, letter{2, propose(4, 0, -1, "")}))
				checkDeliver(t, c, place-3*(count+1), count)
				return c
			}
			checkMail(t, build, l)
			if t.Failed() {
				t.Fatalf("%d of %d", place, count+1)
			}
		}
	}
}

// checkNone holds that none is under way.
func checkNone(t *testing.T, c *council.Council) {
	t.Helper()
	for _, i := range append(farInts(), -3, -2, -1, 0, 1, 2, 3, math.MinInt, math.MaxInt) {
		if c.Deliver(i) || c.Lose(i) {
			t.Errorf("one goes out at %d", i)
		}
		checkWaiting(t, c, 0)
	}
}

// 23.1: without one under way Deliver and Lose tell false, whatever i is, and change nothing.
func TestNoneUnderWay(t *testing.T) {
	c := quiet(t)
	checkNone(t, c)
	checkForge(t, c, 2, propose(4, 0, -1, "z"), true)
	checkDeliver(t, c, 0, 3)
	loseAll(t, c)
	checkNone(t, c)
	checkForge(t, c, 1, propose(4, 0, -1, "z"), true)
	checkLose(t, c, 0, 0)
	checkNone(t, c)
	checkAllWait(t, c, size{4, 1}, 2)
	for _, x := range sizes() {
		c := whole(t, x, 0)
		deliverAll(t, c)
		checkNone(t, c)
		checkDecided(t, c, own(1), nodesTo(x.honest())...)
	}
}

// 23.1: Lose takes nothing: nodes are as if nothing had been said to them.
func TestLoseTakesNothing(t *testing.T) {
	for _, x := range sizes() {
		c := whole(t, x, 0)
		for left := x.honest() - 1; left >= 0; left-- {
			checkLose(t, c, left, left)
		}
		checkAllWait(t, c, x, 0)
		// The prevotes that would be the last ones needed are lost: all go on waiting for them.
		c = said(t, x, false)
		for range (x.most() - 1) * x.honest() {
			checkDeliver(t, c, 0, c.Waiting()-1)
		}
		loseAll(t, c)
		for k := 1; k <= x.honest(); k++ {
			checkTimeout(t, c, k, 2, x.honest())
		}
		// Likewise the precommits: nobody decides.
		c = said(t, x, true)
		for range (x.most() - 1) * x.honest() {
			checkDeliver(t, c, 0, c.Waiting()-1)
		}
		loseAll(t, c)
		checkDecided(t, c, "")
	}
}

// said is a council whose honest nodes have all taken the first proposal, or, of precommits, all prevotes too: what they said then is under way.
func said(t *testing.T, x size, precommits bool) *council.Council {
	t.Helper()
	c := whole(t, x, 0)
	count := x.honest()
	if precommits {
		count += x.honest() * x.honest()
	}
	for range count {
		c.Deliver(0)
	}
	checkWaiting(t, c, x.honest()*x.honest())
	checkDecided(t, c, "")
	return c
}

// 23.1: what a node says is under way to each honest node, itself too, in order of nodes, behind all that is: of what node j said the one to node k is at just that place. Here node k gets all of its prevotes and nobody else any; with Most of them it says a precommit.
func TestPrevotesUnderWay(t *testing.T) {
	for _, x := range sizes() {
		for k := 1; k <= x.honest(); k++ {
			c := said(t, x, false)
			for j := range x.honest() {
				then := c.Waiting() - 1
				if j+1 == x.most() {
					then += x.honest()
				}
				// Of each node ahead one is gone.
				checkDeliver(t, c, j*x.honest()+k-1-j, then)
			}
			checkDecided(t, c, "")
		}
	}
}

// 23.1: likewise of precommits: with Most of them node k has decided, and nobody else.
func TestPrecommitsUnderWay(t *testing.T) {
	for _, x := range sizes() {
		for k := 1; k <= x.honest(); k++ {
			c := said(t, x, true)
			for j := range x.honest() {
				checkDeliver(t, c, j*x.honest()+k-1-j, c.Waiting()-1)
				if j+1 < x.most() {
					checkDecided(t, c, "")
				} else {
					checkDecided(t, c, own(1), k)
				}
			}
		}
	}
}

// 23.1: what is said lies behind all that is under way, also what was forged.
func TestSaidBehind(t *testing.T) {
	l := proposals(4)
	build := func() *council.Council {
		// The second goes out: node 2 says its prevote.
		c := forged(t, l)
		checkDeliver(t, c, 1, 6)
		return c
	}
	for k, want := range []letter{l[0], l[2], l[3]} {
		c := build()
		only(c, k)
		checkDeliver(t, c, 0, 3)
		// Node 2 has said its prevote already, and now its node has; the third waits for a proposal.
		for other := 1; other <= 3; other++ {
			more := 3
			if other == want.to || other == 2 {
				more = 0
			}
			checkTimeout(t, c, other, 1, more)
		}
	}
	for k := 1; k <= 3; k++ {
		// Node k has two prevotes; the third is node 2's, which lies at the place of k.
		c := build()
		w := l[1].w
		for range 3 {
			checkLose(t, c, 0, c.Waiting()-1)
		}
		only(c, k-1)
		if k != 2 {
			checkForge(t, c, k, w, true)
			checkDeliver(t, c, 1, 4)
			checkForge(t, c, k, prevote(4, 0, w.Value), true)
			checkDeliver(t, c, k, 4)
			checkDeliver(t, c, 3, 3)
		} else {
			// It has its own one, node 4's, and node 1's or 3's.
			checkForge(t, c, 3, w, true)
			checkDeliver(t, c, 1, 4)
			checkForge(t, c, 2, prevote(4, 0, w.Value), true)
			checkDeliver(t, c, 2, 4)
			checkDeliver(t, c, 3, 3)
		}
		// Without node 2's one there would be no third one.
		checkDeliver(t, c, 0, 5)
	}
}

// 23.1: several words that a node says at once are under way one behind the other, each to all.
func TestSeveralWords(t *testing.T) {
	build := func() *council.Council {
		c := quiet(t)
		// Nodes 1 and 2 have taken z and say their prevotes; node 3 gets these, and node 4's, ahead of the proposal.
		for _, k := range []int{1, 2} {
			checkForge(t, c, k, propose(4, 0, -1, "z"), true)
		}
		checkForge(t, c, 3, prevote(4, 0, "z"), true)
		checkDeliver(t, c, 2, 2)
		checkDeliver(t, c, 0, 4)
		checkDeliver(t, c, 0, 6)
		checkDeliver(t, c, 2, 5)
		checkDeliver(t, c, 4, 4)
		checkForge(t, c, 3, propose(4, 0, -1, "z"), true)
		// It says a prevote and a precommit.
		checkDeliver(t, c, 4, 10)
		return c
	}
	// The prevotes of 1 and 2 to 1 and 2 are 0 to 3; node 3's prevotes 4 to 6, its precommits 7 to 9.
	for k := 1; k <= 2; k++ {
		c := build()
		checkDeliver(t, c, k-1, 9)
		checkDeliver(t, c, k, 8)
		checkDeliver(t, c, 2+k-1, 7+3)
		c = build()
		checkDeliver(t, c, 7+k-1, 9)
		checkDeliver(t, c, k-1, 8)
		checkDeliver(t, c, k, 7)
		checkDeliver(t, c, 2+k-1, 6+3)
	}
	for k := 1; k <= 3; k++ {
		c := build()
		// All but node 3's precommits; two precommits of nodes 1 and 2, at the end, and this one decide.
		for range 7 {
			c.Deliver(0)
		}
		checkWaiting(t, c, 9)
		checkDecided(t, c, "")
		checkDeliver(t, c, 3+k-1, 8)
		checkDeliver(t, c, 5+k-1, 7)
		checkDecided(t, c, "")
		checkDeliver(t, c, k-1, 6)
		checkDecided(t, c, "z", k)
	}
}

// 23.1, 23.2: the example, word by word: who says a prevote, a precommit, who decides.
func TestExample(t *testing.T) {
	c := made(t, 4, 1, 0, "a", "b", "c")
	checkWaiting(t, c, 3)
	for i, x := range []struct {
		then    int
		decided []int
	}{
		// The proposal to 1, 2, 3: each says its prevote.
		{5, nil}, {7, nil}, {9, nil},
		// Node 1's and node 2's prevotes.
		{8, nil}, {7, nil}, {6, nil}, {5, nil}, {4, nil}, {3, nil},
		// Node 3's: the third one, behind which each says its precommit.
		{5, nil}, {7, nil}, {9, nil},
		// Node 1's and node 2's precommits.
		{8, nil}, {7, nil}, {6, nil}, {5, nil}, {4, nil}, {3, nil},
		// Node 3's: the third one, which decides.
		{2, []int{1}}, {1, []int{1, 2}}, {0, []int{1, 2, 3}},
	} {
		checkDeliver(t, c, 0, x.then)
		checkDecided(t, c, "a", x.decided...)
		if t.Failed() {
			t.Fatalf("word %d", i)
		}
	}
	checkNone(t, c)
}

// 23.1: one node alone says all to itself.
func TestAlone(t *testing.T) {
	for _, height := range []int{0, 1, 64} {
		c := made(t, 1, 0, height, "a")
		checkWaiting(t, c, 1)
		for range 2 {
			checkDeliver(t, c, 0, 1)
			checkDecided(t, c, "")
		}
		checkDeliver(t, c, 0, 0)
		checkDecided(t, c, "a", 1)
		checkNone(t, c)
	}
}

// 23.1: two nodes, of which none may be wrong, in an order of ours: each place was worked out by hand.
func TestTwo(t *testing.T) {
	c := made(t, 2, 0, 1, "a", "b")
	// Node 2 leads. P>1 P>2
	checkWaiting(t, c, 2)
	checkDeliver(t, c, 1, 3)  // P>1 V2>1 V2>2
	checkDeliver(t, c, 1, 2)  // P>1 V2>2: node 1 has a prevote, and no proposal
	checkDeliver(t, c, 0, 3)  // V2>2 V1>1 V1>2
	checkDeliver(t, c, 1, 4)  // V2>2 V1>2 C1>1 C1>2: its own one was the second
	checkDeliver(t, c, 1, 3)  // V2>2 C1>1 C1>2
	checkDeliver(t, c, 2, 2)  // V2>2 C1>1
	checkDeliver(t, c, -2, 3) // C1>1 C2>1 C2>2
	checkDeliver(t, c, -1, 2) // C1>1 C2>1
	checkDecided(t, c, "b", 2)
	checkLose(t, c, 0, 1)
	checkDeliver(t, c, 0, 0)
	checkDecided(t, c, "b", 2)
	// Node 1 has one precommit alone; it goes on, and node 2 says nothing any more.
	checkTimeout(t, c, 1, 3, 2) // P1>1 P1>2
	checkDeliver(t, c, 0, 3)    // P1>2 V1>1 V1>2
	deliverAll(t, c)
	checkDecided(t, c, "b", 2)
}
