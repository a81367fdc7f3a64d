package agree_test

import (
	"testing"

	"sandglass/agree"
	"sandglass/api"
)

// votesOf are votes of that kind and round, of the value, from these nodes.
func votesOf(kind, round int, value string, from ...int) []api.Word {
	var l []api.Word
	for _, k := range from {
		l = append(l, api.Word{Kind: kind, From: k, Round: round, Value: value})
	}
	return l
}

// quorum is how many votes are Most.
func quorum(x size) int { return (x.n+x.t)/2 + 1 }

// 22.3, rule 1: Most of the precommits of a round and its proposal's Value are a decision; one vote less is none; of all n and t.
func TestDecide(t *testing.T) {
	for _, x := range sizes() {
		for me := 1; me <= x.n; me++ {
			for _, value := range []string{"x", "own", mixed(4096, 1)} {
				a := made(t, x.n, x.t, me, 0, "own")
				a.Start()
				checkTake(t, a, propose(1, 0, -1, value), prevote(me, 0, value))
				for from := 1; from < quorum(x); from++ {
					takeAll(t, a, precommit(from, 0, value))
					checkState(t, a, at(0, 2))
				}
				takeAll(t, a, precommit(x.n, 0, value))
				checkState(t, a, at(0, 2).decides(value))
			}
		}
	}
}

// 22.3, rule 1: it does not apply without a proposal, to precommits of another Value, of none, of another round, or to prevotes.
func TestDecideNot(t *testing.T) {
	for _, x := range []struct {
		what string
		l    []api.Word
	}{
		{"no proposal", votesOf(3, 0, "x", 1, 2, 3)},
		{"no proposal from the Leader", append(votesOf(3, 0, "x", 1, 2, 3), propose(3, 0, -1, "x"))},
		{"no proposal of that round", append(votesOf(3, 0, "x", 1, 2, 3), propose(2, 1, -1, "x"))},
		{"no proposal, and no Value", votesOf(3, 0, "", 1, 2, 3)},
	} {
		a := started(t, 4)
		takeAll(t, a, x.l...)
		if stateOf(a) != at(0, 1) {
			t.Errorf("%s: %+v", x.what, stateOf(a))
		}
	}
	for _, x := range []struct {
		what string
		l    []api.Word
	}{
		{"two", votesOf(3, 0, "x", 1, 2)},
		{"another Value", votesOf(3, 0, "y", 1, 2, 3)},
		{"a longer Value", votesOf(3, 0, "xx", 1, 2, 3)},
		{"none", votesOf(3, 0, "", 1, 2, 3)},
		{"some", append(votesOf(3, 0, "x", 1, 3), votesOf(3, 0, "y", 2, 4)...)},
		{"none among them", append(votesOf(3, 0, "x", 1, 3), votesOf(3, 0, "", 2, 4)...)},
		{"prevotes", votesOf(2, 0, "x", 1, 2)},
		{"several rounds", append(votesOf(3, 0, "x", 1, 2), precommit(3, 1, "x"))},
		{"strangers", votesOf(3, 0, "x", 1, 2, 5, 6, 7)},
		{"one twice", votesOf(3, 0, "x", 1, 2, 1, 2)},
	} {
		a := started(t, 4)
		checkTake(t, a, propose(1, 0, -1, "x"), prevote(4, 0, "x"))
		takeAll(t, a, x.l...)
		if stateOf(a) != at(0, 2) {
			t.Errorf("%s: %+v", x.what, stateOf(a))
		}
	}
}

// 22.3, rule 1: it comes first, and nothing is said or done behind it: not rules 3, 5 and 6, which would apply; the proposal comes last.
func TestDecideFirst(t *testing.T) {
	a := started(t, 4)
	takeAll(t, a, append(votesOf(3, 0, "x", 1, 2, 3), votesOf(2, 0, "x", 1, 2, 3)...)...)
	takeAll(t, a, propose(1, 0, -1, "x"))
	checkState(t, a, at(0, 1).decides("x"))

	b := started(t, 4)
	takeAll(t, b, votesOf(2, 0, "x", 1, 2, 3)...)
	checkTake(t, b, timeout(0, 1), prevote(4, 0, ""))
	takeAll(t, b, votesOf(3, 0, "x", 1, 2, 3)...)
	takeAll(t, b, propose(1, 0, -1, "x"))
	checkState(t, b, at(0, 2).decides("x"))

	c := started(t, 4)
	toLock(t, c, 0)
	takeAll(t, c, append(votesOf(3, 0, "y", 1, 2, 3), timeout(0, 3))...)
	takeAll(t, c, votesOf(3, 1, "y", 1, 2, 3)...)
	takeAll(t, c, propose(2, 1, -1, "y"))
	checkState(t, c, locked(1, 1, "x", 0).decides("y"))
}

// 22.3, rule 1: of one node, precommits of a round beyond are a decision ahead of the round's beginning.
func TestDecideBeyond(t *testing.T) {
	for round := 1; round <= 63; round++ {
		a := made(t, 1, 0, 1, 0, "own")
		checkSaid(t, a.Start(), propose(1, 0, -1, "own"))
		takeAll(t, a, propose(1, round, -1, "x"))
		takeAll(t, a, precommit(1, round, "x"))
		checkState(t, a, at(0, 1).decides("x"))
	}
}

// 22.3, rule 1: a proposal of any round counts, behind the node's own, at it, or the one that it follows to.
func TestDecideRounds(t *testing.T) {
	for round := range 64 {
		leader := plainLeader(4, 0, round)
		// The node stands in round 63, and knows of the round's proposal late.
		a := started(t, 2)
		takeAll(t, a, prevote(1, 63, ""), prevote(3, 63, ""))
		checkState(t, a, at(63, 1))
		takeAll(t, a, votesOf(3, round, "x", 1, 2, 3)...)
		checkState(t, a, at(63, 1))
		takeAll(t, a, propose(leader, round, -1, "x"))
		checkState(t, a, at(63, 1).decides("x"))
	}
	b := started(t, 2)
	takeAll(t, b, propose(1, 8, -1, "x"), precommit(1, 8, "x"))
	play(t, b,
		turn{precommit(3, 8, "x"), says(prevote(2, 8, "x")), at(8, 2)},
		turn{precommit(2, 8, "x"), nil, at(8, 2).decides("x")},
	)
}

// 22.3, rule 1: among proposals of several rounds each is held against its own round's precommits, those behind it and beyond it do not matter.
func TestDecideAmong(t *testing.T) {
	many := []api.Word{propose(1, 0, -1, "a"), propose(2, 1, -1, "b"), propose(3, 2, -1, "a"), propose(4, 3, -1, "c")}
	values := []string{"a", "b", "a", "c"}
	for round, value := range values {
		a := started(t, 2)
		takeAll(t, a, prevote(1, 6, ""), prevote(3, 6, ""))
		takeAll(t, a, many...)
		// Precommits of the other rounds, of what is proposed elsewhere: none is decided.
		for other := range values {
			if other != round {
				takeAll(t, a, votesOf(3, other, values[(other+1)%4], 1, 2, 3, 4)...)
			}
		}
		takeAll(t, a, votesOf(3, round, value, 4, 2)...)
		checkState(t, a, at(6, 1))
		takeAll(t, a, precommit(1, round, value))
		checkState(t, a, at(6, 1).decides(value))
	}
	// Two precommits in each of three rounds, and then one more: that round's value.
	for round, value := range values {
		a := started(t, 2)
		takeAll(t, a, prevote(1, 6, ""), prevote(3, 6, ""))
		takeAll(t, a, many...)
		for other := range values {
			takeAll(t, a, votesOf(3, other, values[other], 1, 3)...)
		}
		checkState(t, a, at(6, 1))
		takeAll(t, a, precommit(4, round, value))
		checkState(t, a, at(6, 1).decides(value))
	}
}

// 22.3, rule 2: t nodes in a round beyond are too few, t + 1 are enough, of either kind, of all n and t.
func TestFollow(t *testing.T) {
	for _, x := range sizes() {
		for _, kind := range []int{2, 3} {
			for _, round := range []int{1, 2, 9, 62, 63} {
				me := plainLeader(x.n, 0, round+1) // it leads that round only if it is alone
				a := made(t, x.n, x.t, me, 0, "own")
				a.Start()
				for from := 1; from <= x.t; from++ {
					takeAll(t, a, api.Word{Kind: kind, From: from, Round: round, Value: "x"})
					takeAll(t, a, api.Word{Kind: 5 - kind, From: from, Round: round, Value: "y"})
				}
				checkState(t, a, at(0, 1))
				var want []api.Word
				if x.n == 1 {
					want = says(propose(1, round, -1, "own"))
				}
				checkTake(t, a, api.Word{Kind: kind, From: x.n, Round: round, Value: ""}, want...)
				checkState(t, a, at(round, 1))
			}
		}
	}
}

// 22.3, rule 2: nodes in several rounds are not added up; a round behind, and the node's own, do not begin.
func TestFollowNot(t *testing.T) {
	a := started(t, 4)
	takeAll(t, a, prevote(1, 1, "x"), prevote(2, 2, "x"), precommit(3, 4, "x"), precommit(4, 5, "x"), precommit(1, 1, "x"))
	checkState(t, a, at(0, 1))
	takeAll(t, a, prevote(1, 0, "x"), prevote(2, 0, "y"), precommit(3, 0, ""))
	checkState(t, a, at(0, 1))
	takeAll(t, a, prevote(1, 4, ""))
	checkState(t, a, at(4, 1))
	takeAll(t, a, prevote(2, 1, "x"), precommit(3, 2, ""), prevote(4, 1, ""), prevote(2, 4, "x"), prevote(1, 3, ""), prevote(3, 3, ""))
	checkState(t, a, at(4, 1))
	takeAll(t, a, precommit(2, 5, ""))
	checkState(t, a, at(5, 1))
}

// 22.3, rule 2: with several rounds beyond, to which t + 1 nodes come one behind the other, each begins when it is beyond the node's own.
func TestFollowSeveral(t *testing.T) {
	for _, x := range []struct{ rounds, then []int }{
		{[]int{5, 9, 14}, []int{5, 9, 14}},
		{[]int{14, 9, 5}, []int{14, 14, 14}},
		{[]int{9, 5, 14}, []int{9, 9, 14}},
		{[]int{9, 14, 5}, []int{9, 14, 14}},
	} {
		a := started(t, 3)
		takeAll(t, a, prevote(1, 5, ""), prevote(1, 9, ""), prevote(1, 14, ""))
		for i, round := range x.rounds {
			a.Take(precommit(2, round, ""))
			checkState(t, a, at(x.then[i], 1))
		}
	}
}

// 22.3, rule 2: it applies in each step, keeps the lock, and goes over rounds between.
func TestFollowSteps(t *testing.T) {
	for step := 1; step <= 3; step++ {
		a := inStep(t, step)
		takeAll(t, a, prevote(1, 7, "x"))
		takeAll(t, a, prevote(1, 63, "x"))
		checkState(t, a, at(2, step))
		takeAll(t, a, prevote(4, 7, "y"))
		checkState(t, a, at(7, 1))
		takeAll(t, a, prevote(4, 63, "y"))
		checkState(t, a, at(63, 1))
	}
	b := started(t, 4)
	toLock(t, b, 0)
	takeAll(t, b, prevote(1, 5, "y"), prevote(2, 5, "y"))
	checkState(t, b, locked(5, 1, "x", 0))
}

// 22.3, rule 3: without a lock the prevote is of the Value, whatever the node would have.
func TestPrevote(t *testing.T) {
	for _, x := range sizes() {
		for me := 1; me <= x.n; me++ {
			for _, value := range []string{"x", "own", mixed(4096, 1)} {
				a := made(t, x.n, x.t, me, 0, "own")
				a.Start()
				checkTake(t, a, propose(1, 0, -1, value), api.Word{Kind: api.WordPrevote, From: me, Round: 0, Valid: 0, Value: value})
				checkState(t, a, at(0, api.StepPrevote))
			}
		}
	}
}

// 22.3, rule 3: with a lock the prevote is of the Value, if the lock is on it, and else of none; the lock stays.
func TestPrevoteLocked(t *testing.T) {
	for _, x := range []struct{ value, want string }{{"x", "x"}, {"y", ""}, {"own", ""}, {"xx", ""}, {"\x00", ""}} {
		a := started(t, 4)
		toLock(t, a, 0)
		takeAll(t, a, timeout(0, 3))
		checkTake(t, a, propose(2, 1, -1, x.value), prevote(4, 1, x.want))
		checkState(t, a, locked(1, 2, "x", 0))
	}
}

// 22.3, rule 3: in StepPrevote and StepPrecommit a proposal has no prevote any more; nor has one of another round.
func TestPrevoteNot(t *testing.T) {
	for step := 2; step <= 3; step++ {
		a := inStep(t, step)
		takeAll(t, a, propose(3, 2, -1, "z"))
		checkState(t, a, at(2, step))
	}
	b := inStep(t, 1)
	takeAll(t, b, propose(1, 0, -1, "x"), propose(2, 1, -1, "x"), propose(4, 3, -1, "x"), propose(2, 2, -1, "x"), propose(3, 2, 0, "x"))
	checkState(t, b, at(2, 1))
	c := inStep(t, 1)
	checkTake(t, c, propose(3, 2, -1, "x"), prevote(2, 2, "x"))
	takeAll(t, c, propose(3, 2, -1, "x"))
	checkState(t, c, at(2, 2))
}

// 22.3, rule 4: with Valid 0 or more there is a prevote when Most of that round's prevotes is the Value, though it comes behind.
func TestPrevoteAgain(t *testing.T) {
	for _, valid := range []int{0, 1} {
		for last := 0; last <= 3; last++ {
			a := inStep(t, 1)
			l := append(votesOf(2, valid, "x", 1, 3, 4), propose(3, 2, valid, "x"))
			// Each of the four comes last, once.
			l[last], l[3] = l[3], l[last]
			takeAll(t, a, l[:3]...)
			checkState(t, a, at(2, 1))
			checkTake(t, a, l[3], prevote(2, 2, "x"))
			checkState(t, a, at(2, 2))
		}
	}
}

// 22.3, rule 4: it does not apply without Most of just that round's prevotes, of just that Value, or in another step.
func TestPrevoteAgainNot(t *testing.T) {
	for _, l := range [][]api.Word{
		votesOf(2, 1, "x", 1, 2),
		votesOf(2, 1, "y", 1, 2, 3),
		votesOf(2, 1, "", 1, 2, 3),
		append(votesOf(2, 1, "x", 1, 2), votesOf(2, 1, "y", 3, 4)...),
		votesOf(2, 0, "x", 1, 2, 3, 4),
		votesOf(2, 2, "x", 2, 4),
		votesOf(3, 1, "x", 1, 2, 3, 4),
		append(votesOf(2, 1, "x", 1, 2), prevote(3, 0, "x"), prevote(4, 0, "x")),
		votesOf(2, 1, "x", 1, 2, 1, 2, 5, 6, 7),
	} {
		a := inStep(t, 1)
		takeAll(t, a, propose(3, 2, 1, "x"))
		takeAll(t, a, l...)
		checkState(t, a, at(2, 1))
	}
	for step := 2; step <= 3; step++ {
		a := inStep(t, step)
		takeAll(t, a, votesOf(2, 1, "x", 1, 2, 3)...)
		takeAll(t, a, propose(3, 2, 1, "x"))
		checkState(t, a, at(2, step))
	}
	// Its own round's prevotes are not those of Valid: the proposal waits, and the step too.
	b := started(t, 2)
	takeAll(t, b, timeout(1, 3), prevote(1, 3, "x"), prevote(3, 3, "x"), propose(4, 3, 1, "x"), prevote(4, 3, "x"))
	checkState(t, b, at(3, 1))
}

// lockedOn is node 4's part, locked on x in round 2, in StepPropose of a round whose Leader is another one.
func lockedOn(t *testing.T, round int) *agree.Agree {
	t.Helper()
	a := started(t, 4)
	takeAll(t, a, timeout(0, 3), timeout(1, 3))
	toLock(t, a, 2)
	for r := 2; r < round; r++ {
		a.Take(timeout(r, 3))
	}
	checkState(t, a, locked(round, 1, "x", 2))
	return a
}

// 22.3, rule 4: a lock whose round is at most Valid gives way; one beyond it does not, unless it is on that value.
func TestPrevoteAgainLocked(t *testing.T) {
	for _, x := range []struct {
		round, valid int
		value, want  string
	}{
		{5, 0, "y", ""}, {5, 1, "y", ""}, {5, 3, "y", "y"}, {5, 4, "y", "y"},
		{5, 0, "x", "x"}, {5, 1, "x", "x"}, {5, 3, "x", "x"}, {5, 4, "x", "x"},
		{61, 1, "y", ""}, {61, 3, "y", "y"}, {61, 60, "y", "y"}, {61, 60, "x", "x"}, {61, 0, "x", "x"},
	} {
		a := lockedOn(t, x.round)
		takeAll(t, a, votesOf(2, x.valid, x.value, 1, 2, 3)...)
		checkTake(t, a, propose(plainLeader(4, 0, x.round), x.round, x.valid, x.value), prevote(4, x.round, x.want))
		checkState(t, a, locked(x.round, 2, "x", 2))
	}
	// Of the lock's own round Most of the prevotes is the lock's value, and no other one.
	for _, round := range []int{4, 5, 6, 8} {
		a := lockedOn(t, round)
		checkTake(t, a, propose(plainLeader(4, 0, round), round, 2, "x"), prevote(4, round, "x"))
		b := lockedOn(t, round)
		takeAll(t, b, propose(plainLeader(4, 0, round), round, 2, "y"))
		checkState(t, b, locked(round, 1, "x", 2))
	}
}

// 22.3, rule 5: in StepPrevote it locks, says a precommit, and the step is StepPrecommit; of all n and t, with one vote less nothing.
func TestLock(t *testing.T) {
	for _, x := range sizes() {
		for me := 1; me <= x.n; me++ {
			for _, value := range []string{"x", "own", mixed(4096, 1)} {
				a := made(t, x.n, x.t, me, 0, "own")
				a.Start()
				checkTake(t, a, propose(1, 0, -1, value), prevote(me, 0, value))
				for from := 1; from < quorum(x); from++ {
					takeAll(t, a, prevote(from, 0, value))
					checkState(t, a, at(0, 2))
				}
				checkTake(t, a, prevote(x.n, 0, value), api.Word{Kind: api.WordPrecommit, From: me, Round: 0, Valid: 0, Value: value})
				checkState(t, a, locked(0, api.StepPrecommit, value, 0))
			}
		}
	}
}

// 22.3, rule 5: a prevote of none (a timeout's, or a lock's) does not bar it; the lock is on the new value then.
func TestLockAnew(t *testing.T) {
	a := lockedOn(t, 4)
	play(t, a,
		turn{timeout(4, 1), says(prevote(4, 4, "")), locked(4, 2, "x", 2)},
		turn{prevote(1, 4, "y"), nil, locked(4, 2, "x", 2)},
		turn{prevote(2, 4, "y"), nil, locked(4, 2, "x", 2)},
		turn{prevote(3, 4, "y"), nil, locked(4, 2, "x", 2)},
		turn{propose(1, 4, -1, "y"), says(precommit(4, 4, "y")), locked(4, 3, "y", 4)},
		turn{prevote(4, 4, ""), nil, locked(4, 3, "y", 4)},
		turn{timeout(4, 3), nil, locked(5, 1, "y", 4)},
		turn{propose(2, 5, -1, "x"), says(prevote(4, 5, "")), locked(5, 2, "y", 4)},
	)
	// The same value again: the lock's round is the later one.
	b := lockedOn(t, 4)
	checkTake(t, b, propose(1, 4, -1, "x"), prevote(4, 4, "x"))
	takeAll(t, b, votesOf(2, 4, "x", 1, 2)...)
	checkTake(t, b, prevote(4, 4, "x"), precommit(4, 4, "x"))
	checkState(t, b, locked(4, 3, "x", 4))
}

// 22.3, rule 5: it does not apply without the proposal, without Most, of another Value, of another round's votes, or of precommits.
func TestLockNot(t *testing.T) {
	for _, l := range [][]api.Word{
		votesOf(2, 0, "x", 1, 2),
		votesOf(2, 0, "y", 1, 2, 3),
		append(votesOf(2, 0, "x", 1, 2), votesOf(2, 0, "", 3, 4)...),
		append(votesOf(2, 0, "x", 1, 2), prevote(3, 1, "x")),
		votesOf(3, 0, "x", 1, 2),
		votesOf(3, 0, "y", 1, 2, 3),
		votesOf(2, 0, "x", 1, 2, 1, 2, 5, 6),
	} {
		a := started(t, 4)
		checkTake(t, a, propose(1, 0, -1, "x"), prevote(4, 0, "x"))
		takeAll(t, a, l...)
		checkState(t, a, at(0, 2))
	}
	for _, l := range [][]api.Word{
		votesOf(2, 0, "x", 1, 2, 3),
		append(votesOf(2, 0, "x", 1, 2, 3), propose(2, 0, -1, "x"), propose(2, 1, -1, "x")),
		append(votesOf(2, 0, "x", 1, 2, 3), propose(1, 4, 0, "x")),
	} {
		a := started(t, 4)
		checkTake(t, a, timeout(0, 1), prevote(4, 0, ""))
		takeAll(t, a, l...)
		checkState(t, a, at(0, 2))
	}
	// In StepPropose, where a proposal waits for the prevotes of Valid: once the step is another one, it applies.
	b := inStep(t, 1)
	c := started(t, 2)
	takeAll(t, c, prevote(1, 2, "x"), prevote(3, 2, "x"), propose(3, 2, 0, "x"), prevote(4, 2, "x"))
	checkState(t, c, at(2, 1))
	checkTake(t, c, timeout(2, 1), prevote(2, 2, ""), precommit(2, 2, "x"))
	checkState(t, c, locked(2, 3, "x", 2))
	// Votes of rounds behind make no lock.
	takeAll(t, b, propose(1, 0, -1, "x"), propose(2, 1, -1, "x"))
	takeAll(t, b, append(votesOf(2, 0, "x", 1, 3, 4), votesOf(2, 1, "x", 1, 3, 4)...)...)
	checkTake(t, b, timeout(2, 1), prevote(2, 2, ""))
	takeAll(t, b, prevote(1, 0, "x"))
	checkState(t, b, at(2, 2))
}

// 22.3, rule 5: in StepPrecommit it says nothing and locks nothing: the value is the valid one alone, which the node proposes when it leads.
func TestValidAlone(t *testing.T) {
	a := lockedOn(t, 5)
	play(t, a,
		turn{propose(2, 5, -1, "y"), says(prevote(4, 5, "")), locked(5, 2, "x", 2)},
		turn{timeout(5, 2), says(precommit(4, 5, "")), locked(5, 3, "x", 2)},
		turn{prevote(1, 5, "y"), nil, locked(5, 3, "x", 2)},
		turn{prevote(2, 5, "y"), nil, locked(5, 3, "x", 2)},
		turn{prevote(3, 5, "y"), nil, locked(5, 3, "x", 2)},
		turn{timeout(5, 3), nil, locked(6, 1, "x", 2)},
		turn{timeout(6, 3), says(propose(4, 7, 5, "y")), locked(7, 1, "x", 2)},
		turn{propose(4, 7, 5, "y"), says(prevote(4, 7, "y")), locked(7, 2, "x", 2)},
	)
	// The proposal comes last.
	b := lockedOn(t, 5)
	checkTake(t, b, timeout(5, 1), prevote(4, 5, ""))
	checkTake(t, b, timeout(5, 2), precommit(4, 5, ""))
	takeAll(t, b, append(votesOf(2, 5, "y", 1, 2, 3), propose(2, 5, 4, "y"), timeout(5, 3))...)
	checkTake(t, b, timeout(6, 3), propose(4, 7, 5, "y"))
	// Without Most it stays what it was.
	c := lockedOn(t, 5)
	checkTake(t, c, timeout(5, 1), prevote(4, 5, ""))
	checkTake(t, c, timeout(5, 2), precommit(4, 5, ""))
	takeAll(t, c, append(votesOf(2, 5, "y", 1, 2), propose(2, 5, 4, "y"), timeout(5, 3))...)
	checkTake(t, c, timeout(6, 3), propose(4, 7, 2, "x"))
	// Prevotes that come when the round is over do not count for it.
	d := lockedOn(t, 5)
	checkTake(t, d, propose(2, 5, -1, "y"), prevote(4, 5, ""))
	takeAll(t, d, timeout(5, 3))
	takeAll(t, d, votesOf(2, 5, "y", 1, 2, 3)...)
	checkTake(t, d, timeout(6, 3), propose(4, 7, 2, "x"))
}

// 22.3, rule 5: it applies once in a round, also when further prevotes come, and again in a later one.
func TestLockOnce(t *testing.T) {
	a := started(t, 4)
	toLock(t, a, 0)
	takeAll(t, a, prevote(4, 0, "x"), propose(1, 0, -1, "y"), precommit(1, 0, "y"))
	checkState(t, a, locked(0, 3, "x", 0))
	for round := 1; round <= 9; round++ {
		leader := plainLeader(4, 0, round)
		if leader == 4 {
			checkTake(t, a, timeout(round-1, 3), propose(4, round, round-1, "x"))
		} else {
			takeAll(t, a, timeout(round-1, 3))
		}
		toLock(t, a, round)
		takeAll(t, a, prevote(4, round, "x"))
		checkState(t, a, locked(round, 3, "x", round))
	}
}

// 22.3, rule 6: Most of the round's prevotes is none: a precommit of none, in StepPrevote; of all n and t, with one vote less nothing.
func TestPass(t *testing.T) {
	for _, x := range sizes() {
		me := x.n
		a := made(t, x.n, x.t, me, 0, "own")
		a.Start()
		checkTake(t, a, propose(1, 0, -1, "x"), prevote(me, 0, "x"))
		for from := 1; from < quorum(x); from++ {
			takeAll(t, a, prevote(from, 0, ""))
			checkState(t, a, at(0, 2))
		}
		checkTake(t, a, prevote(x.n, 0, ""), api.Word{Kind: api.WordPrecommit, From: me, Round: 0, Valid: 0, Value: ""})
		checkState(t, a, at(0, 3))
	}
	// It keeps a lock, and needs no proposal.
	b := lockedOn(t, 5)
	checkTake(t, b, timeout(5, 1), prevote(4, 5, ""))
	takeAll(t, b, votesOf(2, 5, "", 1, 2)...)
	checkTake(t, b, prevote(4, 5, ""), precommit(4, 5, ""))
	checkState(t, b, locked(5, 3, "x", 2))
	takeAll(t, b, timeout(5, 3), timeout(5, 3))
	checkTake(t, b, timeout(6, 3), propose(4, 7, 2, "x"))
}

// 22.3, rule 6: it does not apply in another step, of another round, of precommits, or without Most.
func TestPassNot(t *testing.T) {
	a := started(t, 4)
	takeAll(t, a, votesOf(2, 0, "", 1, 2, 3)...)
	checkState(t, a, at(0, 1))
	b := started(t, 4)
	checkTake(t, b, timeout(0, 1), prevote(4, 0, ""))
	checkTake(t, b, timeout(0, 2), precommit(4, 0, ""))
	takeAll(t, b, votesOf(2, 0, "", 1, 2, 3, 4)...)
	checkState(t, b, at(0, 3))
	for _, l := range [][]api.Word{
		votesOf(2, 0, "", 1, 2),
		append(votesOf(2, 0, "", 1, 2), votesOf(2, 0, "x", 3, 4)...),
		votesOf(3, 0, "", 1, 2, 3, 4),
		append(votesOf(2, 0, "", 1, 2), prevote(3, 1, "")),
		votesOf(2, 0, "x", 1, 2, 3),
		votesOf(2, 0, "\x00", 1, 2, 3, 4),
	} {
		c := started(t, 4)
		checkTake(t, c, timeout(0, 1), prevote(4, 0, ""))
		takeAll(t, c, l...)
		checkState(t, c, at(0, 2))
	}
	d := inStep(t, 2)
	takeAll(t, d, append(votesOf(2, 0, "", 1, 2, 3, 4), votesOf(2, 1, "", 1, 2, 3, 4)...)...)
	checkState(t, d, at(2, 2))
}

// 22.3: several rules at one word, one behind the other, and all that is said in order.
func TestSeveralRules(t *testing.T) {
	// 3, 5: the proposal comes behind its prevotes.
	a := started(t, 4)
	takeAll(t, a, votesOf(2, 0, "x", 1, 2, 3)...)
	checkTake(t, a, propose(1, 0, -1, "x"), prevote(4, 0, "x"), precommit(4, 0, "x"))
	checkState(t, a, locked(0, 3, "x", 0))
	// 3, 6.
	b := started(t, 4)
	takeAll(t, b, votesOf(2, 0, "", 1, 2, 3)...)
	checkTake(t, b, propose(1, 0, -1, "x"), prevote(4, 0, "x"), precommit(4, 0, ""))
	checkState(t, b, at(0, 3))
	// A timeout, then 6; then another one, and 3.
	c := started(t, 4)
	takeAll(t, c, votesOf(2, 0, "", 1, 2, 3)...)
	takeAll(t, c, propose(2, 1, -1, "y"))
	checkTake(t, c, timeout(0, 1), prevote(4, 0, ""), precommit(4, 0, ""))
	checkState(t, c, at(0, 3))
	checkTake(t, c, timeout(0, 3), prevote(4, 1, "y"))
	checkState(t, c, at(1, 2))
	// 2, 3.
	d := started(t, 4)
	takeAll(t, d, propose(2, 5, -1, "z"), prevote(1, 5, "z"))
	checkTake(t, d, precommit(3, 5, ""), prevote(4, 5, "z"))
	checkState(t, d, at(5, 2))
	// 2, 4, with a lock that gives way.
	e := lockedOn(t, 4)
	takeAll(t, e, propose(2, 9, 3, "y"), prevote(1, 9, "y"))
	takeAll(t, e, votesOf(2, 3, "y", 1, 2, 3)...)
	checkTake(t, e, prevote(2, 9, "y"), prevote(4, 9, "y"))
	checkState(t, e, locked(9, 2, "x", 2))
	// 4, 5: the last prevote of Valid comes behind all of the round's own.
	f := started(t, 4)
	takeAll(t, f, prevote(1, 5, "z"), prevote(2, 5, "z"), prevote(3, 5, "z"), propose(2, 5, 0, "z"), prevote(1, 0, "z"), prevote(2, 0, "z"))
	checkState(t, f, at(5, 1))
	checkTake(t, f, prevote(3, 0, "z"), prevote(4, 5, "z"), precommit(4, 5, "z"))
	checkState(t, f, locked(5, 3, "z", 5))
	// The Leader's proposal, and behind it a prevote of what came in its name.
	g := started(t, 4)
	takeAll(t, g, propose(4, 3, -1, "z"), prevote(1, 3, "z"))
	checkTake(t, g, prevote(2, 3, "z"), propose(4, 3, -1, "own"), prevote(4, 3, "z"))
	checkState(t, g, at(3, 2))
}

// 22.3: of one node all rules can come at one word: 2, 3 and 5; 2, 3 and 6; 2, 4 and 5.
func TestAllRulesAtOnce(t *testing.T) {
	alone := func() *agree.Agree {
		a := made(t, 1, 0, 1, 0, "own")
		checkSaid(t, a.Start(), propose(1, 0, -1, "own"))
		return a
	}
	a := alone()
	takeAll(t, a, propose(1, 6, -1, "x"))
	checkTake(t, a, prevote(1, 6, "x"), propose(1, 6, -1, "own"), prevote(1, 6, "x"), precommit(1, 6, "x"))
	checkState(t, a, locked(6, 3, "x", 6))
	b := alone()
	takeAll(t, b, propose(1, 6, -1, "x"))
	checkTake(t, b, prevote(1, 6, ""), propose(1, 6, -1, "own"), prevote(1, 6, "x"), precommit(1, 6, ""))
	checkState(t, b, at(6, 3))
	c := alone()
	checkTake(t, c, propose(1, 0, -1, "own"), prevote(1, 0, "own"))
	checkTake(t, c, prevote(1, 0, "own"), precommit(1, 0, "own"))
	takeAll(t, c, propose(1, 6, 0, "own"))
	checkTake(t, c, prevote(1, 6, "own"), propose(1, 6, 0, "own"), prevote(1, 6, "own"), precommit(1, 6, "own"))
	checkState(t, c, locked(6, 3, "own", 6))
	takeAll(t, c, precommit(1, 6, "own"))
	checkState(t, c, locked(6, 3, "own", 6).decides("own"))
}

// 22.4: the example: Start, and each word taken: the value is decided.
func TestExample(t *testing.T) {
	a := made(t, 1, 0, 1, 0, "v")
	checkState(t, a, at(-1, 0))
	checkSaid(t, a.Start(), propose(1, 0, -1, "v"))
	play(t, a,
		turn{propose(1, 0, -1, "v"), says(prevote(1, 0, "v")), at(0, 2)},
		turn{prevote(1, 0, "v"), says(precommit(1, 0, "v")), locked(0, 3, "v", 0)},
		turn{precommit(1, 0, "v"), nil, locked(0, 3, "v", 0).decides("v")},
	)
}
