package council_test

import (
	"math"
	"testing"

	"sandglass/api"
	"sandglass/council"
)

// anyInts are ints round about those that nodes and kinds have, and far off.
func anyInts() []int {
	l := append(farInts(), math.MinInt, math.MaxInt)
	for k := -9; k <= 17; k++ {
		l = append(l, k)
	}
	return l
}

// 23.1: to each honest node, and to no other one, be it wrong or no node at all.
func TestForgeTo(t *testing.T) {
	for _, x := range sizes() {
		for _, to := range anyInts() {
			c := whole(t, x, 0)
			for _, from := range []int{x.honest() + 1, x.n + 1, 0, -1} {
				checkForge(t, c, to, prevote(from, 0, "z"), to >= 1 && to <= x.honest())
			}
		}
	}
}

// 23.1: from any that is none of the honest nodes, also from such as are no nodes at all.
func TestForgeFrom(t *testing.T) {
	for _, x := range sizes() {
		c := whole(t, x, 0)
		for _, from := range anyInts() {
			for to := 1; to <= x.honest(); to++ {
				for kind := 1; kind <= 3; kind++ {
					checkForge(t, c, to, api.Word{Kind: kind, From: from, Value: "z"}, from < 1 || from > x.honest())
				}
			}
		}
	}
}

// 23.1: every kind but WordTimeout, whatever the rest of the word is.
func TestForgeKind(t *testing.T) {
	for _, kind := range anyInts() {
		for _, x := range []size{{1, 0}, {4, 1}, {7, 2}} {
			c := whole(t, x, 0)
			for _, from := range []int{x.n - x.t + 1, x.n + 1, 0, math.MinInt} {
				for step := 0; step <= 4; step++ {
					checkForge(t, c, 1, api.Word{Kind: kind, From: from, Valid: step}, kind != 4)
				}
			}
			checkForge(t, c, x.honest(), api.Word{Kind: kind, From: x.honest()}, false)
			checkForge(t, c, x.honest()+1, api.Word{Kind: kind}, false)
		}
	}
}

// 23.1: what is refused is not under way, and changes nothing of what is.
func TestForgeRefused(t *testing.T) {
	l := proposals(5)
	build := func() *council.Council {
		c := forged(t, l[:2])
		refuse := func() {
			w := propose(4, 0, -1, "other")
			for _, to := range []int{0, 4, 5, -1, math.MinInt, math.MaxInt} {
				checkForge(t, c, to, w, false)
			}
			for from := 1; from <= 3; from++ {
				checkForge(t, c, 1, propose(from, 0, -1, "other"), false)
				checkForge(t, c, from, prevote(from, 0, "other"), false)
			}
			for step := 1; step <= 3; step++ {
				checkForge(t, c, 2, api.Word{Kind: 4, From: 4, Valid: step}, false)
				checkForge(t, c, 2, api.Word{Kind: 4, Valid: step}, false)
			}
		}
		refuse()
		for _, x := range l[2:] {
			checkForge(t, c, x.to, x.w, true)
			refuse()
		}
		return c
	}
	checkMail(t, build, l)
	c := build()
	loseAll(t, c)
	checkAllWait(t, c, size{4, 1}, 0)
}

// 23.1: it lies behind all that is under way, also behind what nodes have said.
func TestForgeBehind(t *testing.T) {
	checkMail(t, func() *council.Council { return forged(t, proposals(7)) }, proposals(7))
	c := quiet(t)
	checkTimeout(t, c, 1, 1, 3)
	checkForge(t, c, 2, propose(4, 0, -1, "z"), true)
	// Node 2 says its prevote behind it, and node 3 has one that lies behind that.
	checkDeliver(t, c, 3, 6)
	checkForge(t, c, 3, propose(4, 0, -1, "z"), true)
	checkForge(t, c, 3, propose(4, 0, -1, "y"), true)
	for i := range 6 {
		checkDeliver(t, c, 0, 7-i)
	}
	checkDeliver(t, c, 0, 4)
	checkDeliver(t, c, 0, 3)
	// Node 1's prevote is of none, node 2's and 3's are of z: with node 4's to each there are three.
	deliverAll(t, c)
	for k := 1; k <= 3; k++ {
		checkForge(t, c, k, prevote(4, 0, "z"), true)
	}
	checkDeliver(t, c, 0, 2)
	checkDeliver(t, c, 0, 4)
	checkDeliver(t, c, 0, 6)
	deliverAll(t, c)
	checkDecided(t, c, "")
	for k := 1; k <= 3; k++ {
		checkForge(t, c, k, precommit(4, 0, "z"), true)
		checkForge(t, c, k, propose(4, 0, -1, "z"), true)
	}
	deliverAll(t, c)
	checkDecided(t, c, "z", 2, 3, 1)
}

// lacking is a council of four in which node 1 has taken the proposal a and two prevotes of it, so that it lacks one; nothing is under way.
func lacking(t *testing.T) *council.Council {
	t.Helper()
	c := made(t, 4, 1, 0, "a", "b", "c")
	for range 3 {
		c.Deliver(0)
	}
	checkDeliver(t, c, 0, 8)
	checkDeliver(t, c, 2, 7)
	loseAll(t, c)
	return c
}

// 23.1: a vote is taken as it was forged: just this one is the third; one that differs in anything is not.
func TestForgedVote(t *testing.T) {
	for _, x := range []struct {
		w    api.Word
		more int
	}{
		{prevote(4, 0, "a"), 3},
		{precommit(4, 0, "a"), 0}, {propose(4, 0, -1, "a"), 0}, {api.Word{Kind: 0, From: 4, Value: "a"}, 0}, {api.Word{Kind: 5, From: 4, Value: "a"}, 0},
		{prevote(5, 0, "a"), 0}, {prevote(0, 0, "a"), 0}, {prevote(-1, 0, "a"), 0}, {prevote(8, 0, "a"), 0}, {prevote(math.MaxInt, 0, "a"), 0},
		{prevote(4, 1, "a"), 0}, {prevote(4, -1, "a"), 0}, {prevote(4, 63, "a"), 0}, {prevote(4, 64, "a"), 0},
		{prevote(4, 0, "b"), 0}, {prevote(4, 0, ""), 0}, {prevote(4, 0, "a "), 0}, {prevote(4, 0, mixed(4097, 1)), 0},
		{api.Word{Kind: 2, From: 4, Valid: -1, Value: "a"}, 0}, {api.Word{Kind: 2, From: 4, Valid: 1, Value: "a"}, 0}, {api.Word{Kind: 2, From: 4, Valid: math.MinInt, Value: "a"}, 0},
	} {
		c := lacking(t)
		checkForge(t, c, 1, x.w, true)
		checkDeliver(t, c, 0, x.more)
		// It counts once.
		checkForge(t, c, 1, x.w, true)
		checkDeliver(t, c, -1, x.more)
		if t.Failed() {
			t.Fatal(shown(x.w))
		}
	}
	// Another node has the same one: it lacks more.
	for _, to := range []int{2, 3} {
		c := lacking(t)
		checkForge(t, c, to, prevote(4, 0, "a"), true)
		checkDeliver(t, c, 0, 0)
	}
}

// 23.1: a precommit is taken as it was forged: the third one decides.
func TestForgedPrecommit(t *testing.T) {
	for _, x := range []struct {
		w  api.Word
		is bool
	}{
		{precommit(4, 0, "a"), true},
		{prevote(4, 0, "a"), false}, {precommit(5, 0, "a"), false}, {precommit(4, 1, "a"), false}, {precommit(4, 0, "b"), false}, {precommit(4, 0, ""), false},
		{api.Word{Kind: 3, From: 4, Valid: 1, Value: "a"}, false}, {api.Word{Kind: 3, From: 4, Valid: -1, Value: "a"}, false},
	} {
		c := said(t, size{4, 1}, true)
		// Node 1's and node 2's precommits go to node 2; the others are lost.
		checkDeliver(t, c, 1, 8)
		checkDeliver(t, c, 3, 7)
		loseAll(t, c)
		if x.w.Value == "a" {
			x.w.Value = own(1)
		}
		checkForge(t, c, 2, x.w, true)
		checkDecided(t, c, "")
		checkDeliver(t, c, 0, 0)
		if x.is {
			checkDecided(t, c, own(1), 2)
		} else {
			checkDecided(t, c, "")
		}
	}
}

// locked is a council of four at height 2, in which all are locked on what node 3 proposed in round 0, and have gone to round 1, which node 4 leads; nothing is under way.
func locked(t *testing.T) *council.Council {
	t.Helper()
	c := made(t, 4, 1, 2, "a", "b", "c")
	for range 12 {
		c.Deliver(0)
	}
	checkWaiting(t, c, 9)
	loseAll(t, c)
	for k := 1; k <= 3; k++ {
		checkTimeout(t, c, k, 3, 0)
	}
	return c
}

// 23.1: a proposal is taken as it was forged: of its Round, its Valid and its Value.
func TestForgedProposal(t *testing.T) {
	for _, x := range []struct {
		w        api.Word
		more     int
		decision string // what is decided, when all have it and the rest goes on
	}{
		// What they are locked on, with and without the round in which it had Most of the prevotes.
		{propose(4, 1, 0, "c"), 3, "c"}, {propose(4, 1, -1, "c"), 3, "c"},
		// Something else: their prevotes are of none.
		{propose(4, 1, -1, "d"), 3, ""},
		// It had not Most of the prevotes, so they wait.
		{propose(4, 1, 0, "d"), 0, ""},
		// What may not be, or is of no Leader, or of another round.
		{propose(4, 1, 1, "c"), 0, ""}, {propose(4, 1, -2, "c"), 0, ""}, {propose(4, 1, 0, ""), 0, ""}, {propose(0, 1, 0, "c"), 0, ""},
		{propose(5, 1, 0, "c"), 0, ""}, {propose(4, 0, -1, "c"), 0, ""}, {propose(4, 2, 0, "c"), 0, ""}, {propose(4, 5, 0, "c"), 0, ""},
		{propose(4, 65, 0, "c"), 0, ""}, {propose(4, -3, -1, "c"), 0, ""}, {propose(4, 1, 0, mixed(4097, 1)), 0, ""},
	} {
		c := locked(t)
		for k := 1; k <= 3; k++ {
			checkForge(t, c, k, x.w, true)
		}
		for k := range 3 {
			checkDeliver(t, c, 0, 2-k+(k+1)*x.more)
		}
		deliverAll(t, c)
		if x.decision != "" {
			checkDecided(t, c, x.decision, 1, 2, 3)
		} else {
			checkDecided(t, c, "")
		}
		if t.Failed() {
			t.Fatal(shown(x.w))
		}
	}
}

// 23.1: a value of MaxBody bytes that was forged is decided; so are all bytes that there are.
func TestForgedValue(t *testing.T) {
	every := make([]byte, 256)
	for k := range every {
		every[k] = byte(k)
	}
	for _, value := range []string{"z", string(every), mixed(4095, 1), mixed(4096, 1), "\xff\xfe", "\x00"} {
		c := quiet(t)
		for k := 1; k <= 3; k++ {
			checkForge(t, c, k, propose(4, 0, -1, value), true)
		}
		deliverAll(t, c)
		checkDecided(t, c, value, 1, 2, 3)
	}
}

// 23.1: words that no node takes are under way, too, and go out; the rest goes on as if they had not been.
func TestForgedForNothing(t *testing.T) {
	for _, w := range []api.Word{
		{}, {Kind: 5}, {Kind: -1}, {Kind: math.MinInt}, {Kind: math.MaxInt},
		prevote(0, 0, "a"), prevote(8, 0, "a"), prevote(math.MinInt, 0, "a"), prevote(4, 64, "b"), prevote(4, -1, "b"), prevote(4, math.MaxInt, "b"), prevote(4, 0, mixed(4097, 1)), prevote(4, 0, mixed(1<<17, 1)),
		precommit(0, 0, "b"), precommit(4, math.MinInt, "b"), {Kind: 3, From: 4, Valid: 3, Value: "b"},
		propose(4, 0, -1, "b"), propose(0, 0, -1, "b"), propose(4, 3, 3, "b"), propose(4, 3, -2, "b"), propose(4, 3, -1, ""), propose(4, 3, math.MinInt, "b"),
	} {
		c := made(t, 4, 1, 0, "a", "b", "c")
		for k := 1; k <= 3; k++ {
			checkForge(t, c, k, w, true)
		}
		for left := 5; left >= 3; left-- {
			checkDeliver(t, c, 3, left)
		}
		for k := 1; k <= 3; k++ {
			checkForge(t, c, k, w, true)
		}
		deliverAll(t, c)
		checkDecided(t, c, "a", 1, 2, 3)
		// And to those that have decided.
		checkForge(t, c, 2, w, true)
		checkDeliver(t, c, 0, 0)
		checkDecided(t, c, "a", 1, 2, 3)
		if t.Failed() {
			t.Fatal(shown(w))
		}
	}
}

// filled is the quiet council with so many words under way that nobody takes.
func filled(t *testing.T, count int) *council.Council {
	t.Helper()
	c := quiet(t)
	for k := range count {
		if !c.Forge(1+k%3, api.Word{Value: "nothing"}) {
			t.Fatalf("Forge: false with %d under way", k)
		}
	}
	checkWaiting(t, c, count)
	return c
}

// 23.1: with 4095 under way one more is, with 4096 none, whatever it is; when one has gone out, there is room again.
func TestForgeFull(t *testing.T) {
	c := filled(t, 4095)
	w := propose(4, 0, -1, "z")
	checkForge(t, c, 4, w, false)
	checkForge(t, c, 1, propose(3, 0, -1, "z"), false)
	checkForge(t, c, 1, api.Word{Kind: 4}, false)
	checkForge(t, c, 2, w, true)
	checkWaiting(t, c, 4096)
	for k := 0; k <= 4; k++ {
		for kind := 0; kind <= 5; kind++ {
			checkForge(t, c, k, api.Word{Kind: kind, From: 4, Valid: -1, Value: "y"}, false)
			checkForge(t, c, k, api.Word{Kind: kind, From: 1}, false)
		}
	}
	checkLose(t, c, 0, 4095)
	checkForge(t, c, 3, w, true)
	checkForge(t, c, 1, w, false)
	checkDeliver(t, c, 0, 4095)
	checkForge(t, c, 1, w, true)
	checkForge(t, c, 1, w, false)
	// All that was refused is nowhere: there are three proposals, behind 4093 words that nobody takes.
	for left := 4095; left >= 3; left-- {
		checkDeliver(t, c, 0, left)
	}
	for k := range 3 {
		checkDeliver(t, c, 0, 2-k+3*(k+1))
	}
	deliverAll(t, c)
	checkDecided(t, c, "z", 1, 2, 3)
}
