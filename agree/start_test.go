package agree_test

import (
	"testing"

	"sandglass/agree"
	"sandglass/api"
)

// 22.2, 22.4: ahead of Start the round is -1, the step 0, and there is neither a lock nor a decision; Start is the Leader's proposal, or nothing; a second one is nothing.
func TestStart(t *testing.T) {
	for _, x := range sizes() {
		for me := 1; me <= x.n; me++ {
			for _, height := range []int{0, 1, 2, 3, 4, 5, 6, 7, 40, 63, 64} {
				a := made(t, x.n, x.t, me, height, "own value")
				checkState(t, a, at(-1, 0))
				said := a.Start()
				if me == plainLeader(x.n, height, 0) {
					checkSaid(t, said, api.Word{Kind: api.WordProposal, From: me, Round: 0, Valid: -1, Value: "own value"})
				} else {
					checkSaid(t, said)
				}
				checkState(t, a, at(0, api.StepPropose))
				checkSaid(t, a.Start())
				checkState(t, a, at(0, api.StepPropose))
			}
		}
	}
}

// 22.2: the value of a proposal has all its bytes, as few and as many as there may be.
func TestStartValue(t *testing.T) {
	for _, value := range []string{"\x00", "x", "\xff\x00", mixed(300, 1), mixed(4095, 2), mixed(4096, 3)} {
		a := made(t, 4, 1, 3, 2, value)
		checkSaid(t, a.Start(), propose(3, 0, -1, value))
	}
}

// 22.2: Start does nothing in later steps and rounds, with a lock, and behind a decision.
func TestStartLate(t *testing.T) {
	a := started(t, 1)
	again := func(want state) {
		t.Helper()
		checkSaid(t, a.Start())
		checkState(t, a, want)
	}
	checkTake(t, a, propose(1, 0, -1, "own"), prevote(1, 0, "own"))
	again(at(0, 2))
	takeAll(t, a, prevote(1, 0, "own"), prevote(2, 0, "own"))
	checkTake(t, a, prevote(3, 0, "own"), precommit(1, 0, "own"))
	again(locked(0, 3, "own", 0))
	takeAll(t, a, timeout(0, 3))
	again(locked(1, 1, "own", 0))
	takeAll(t, a, precommit(1, 0, "own"), precommit(2, 0, "own"), precommit(3, 0, "own"))
	again(locked(1, 1, "own", 0).decides("own"))
}

// 22.2: each round that begins, one behind the other: its Leader proposes its own value, with Valid -1, the others say nothing; behind round 63 there is none.
func TestRoundsBegin(t *testing.T) {
	for _, x := range sizes() {
		for me := 1; me <= x.n; me++ {
			for _, height := range []int{0, 1, 6, 63, 64} {
				a := made(t, x.n, x.t, me, height, "own")
				a.Start()
				for round := 1; round <= 63; round++ {
					var want []api.Word
					if me == plainLeader(x.n, height, round) {
						want = says(propose(me, round, -1, "own"))
					}
					checkTake(t, a, timeout(round-1, 3), want...)
					checkState(t, a, at(round, 1))
				}
				checkLastRound(t, a, me)
			}
		}
	}
}

// checkLastRound holds that no round begins behind round 63, in whichever step, whoever would lead it.
func checkLastRound(t *testing.T, a *agree.Agree, me int) {
	t.Helper()
	takeAll(t, a, timeout(63, 3), timeout(64, 3))
	checkState(t, a, at(63, 1))
	checkTake(t, a, timeout(63, 1), prevote(me, 63, ""))
	takeAll(t, a, timeout(63, 3), timeout(64, 3))
	checkState(t, a, at(63, 2))
	checkTake(t, a, timeout(63, 2), precommit(me, 63, ""))
	takeAll(t, a, timeout(63, 3), timeout(63, 3), timeout(64, 1), timeout(64, 2), timeout(64, 3), timeout(65, 3))
	checkState(t, a, at(63, 3))
}

// 22.2: round 63 is one as the others are: it is agreed in it.
func TestRound63(t *testing.T) {
	a := started(t, 3)
	takeAll(t, a, prevote(1, 63, "x"), propose(4, 63, -1, "x"))
	play(t, a,
		turn{prevote(2, 63, "x"), says(prevote(3, 63, "x")), at(63, 2)},
		turn{timeout(63, 3), nil, at(63, 2)},
		turn{prevote(3, 63, "x"), says(precommit(3, 63, "x")), locked(63, 3, "x", 63)},
		turn{timeout(63, 3), nil, locked(63, 3, "x", 63)},
		turn{precommit(3, 63, "x"), nil, locked(63, 3, "x", 63)},
		turn{precommit(1, 63, "x"), nil, locked(63, 3, "x", 63)},
		turn{prevote(1, 64, "y"), nil, locked(63, 3, "x", 63)},
		turn{prevote(2, 64, "y"), nil, locked(63, 3, "x", 63)},
		turn{precommit(4, 63, "x"), nil, locked(63, 3, "x", 63).decides("x")},
	)
}

// 22.2: the Leader of round 64 would be node 1: it says nothing behind round 63.
func TestNoRound64(t *testing.T) {
	if agree.Leader(4, 0, 64) != 1 {
		t.Fatal("the Leader of round 64 is another one")
	}
	a := started(t, 1)
	takeAll(t, a, prevote(2, 63, ""))
	takeAll(t, a, prevote(3, 63, ""))
	checkState(t, a, at(63, 1))
	takeAll(t, a, timeout(63, 3), prevote(2, 64, ""), prevote(3, 64, ""), precommit(4, 64, ""), timeout(64, 3))
	checkState(t, a, at(63, 1))
}

// toLock lets node 4, in StepPropose of that round, whose Leader is another one, be locked on x.
func toLock(t *testing.T, a *agree.Agree, round int) {
	t.Helper()
	checkTake(t, a, propose(plainLeader(4, 0, round), round, -1, "x"), prevote(4, round, "x"))
	takeAll(t, a, prevote(1, round, "x"), prevote(2, round, "x"))
	checkTake(t, a, prevote(3, round, "x"), precommit(4, round, "x"))
	checkState(t, a, locked(round, 3, "x", round))
}

// 22.2: who leads a round with a valid value proposes that, and its round; in each later round that it leads.
func TestLeaderOfValid(t *testing.T) {
	a := started(t, 4)
	toLock(t, a, 0)
	for round := 1; round <= 63; round++ {
		var want []api.Word
		if round%4 == 3 {
			want = says(propose(4, round, 0, "x"))
		}
		checkTake(t, a, timeout(round-1, 3), want...)
		checkState(t, a, locked(round, 1, "x", 0))
	}
	b := started(t, 4)
	takeAll(t, b, timeout(0, 3))
	toLock(t, b, 1)
	takeAll(t, b, timeout(1, 3))
	checkTake(t, b, timeout(2, 3), propose(4, 3, 1, "x"))
}

// 22.2: a later valid value takes the place of the one ahead, in what the Leader proposes.
func TestLeaderOfLaterValid(t *testing.T) {
	a := started(t, 4)
	toLock(t, a, 0)
	takeAll(t, a, timeout(0, 3))
	play(t, a,
		turn{propose(2, 1, -1, "y"), says(prevote(4, 1, "")), locked(1, 2, "x", 0)},
		turn{prevote(1, 1, "y"), nil, locked(1, 2, "x", 0)},
		turn{prevote(2, 1, "y"), nil, locked(1, 2, "x", 0)},
		turn{prevote(3, 1, "y"), says(precommit(4, 1, "y")), locked(1, 3, "y", 1)},
		turn{timeout(1, 3), nil, locked(2, 1, "y", 1)},
		turn{timeout(2, 3), says(propose(4, 3, 1, "y")), locked(3, 1, "y", 1)},
	)
}

// 22.2: a valid value without a lock, which came in StepPrecommit, is proposed too.
func TestLeaderOfValidAlone(t *testing.T) {
	a := started(t, 4)
	takeAll(t, a, timeout(0, 3), timeout(1, 3))
	play(t, a,
		turn{timeout(2, 1), says(prevote(4, 2, "")), at(2, 2)},
		turn{timeout(2, 2), says(precommit(4, 2, "")), at(2, 3)},
		turn{propose(3, 2, -1, "x"), nil, at(2, 3)},
		turn{prevote(1, 2, "x"), nil, at(2, 3)},
		turn{prevote(2, 2, "x"), nil, at(2, 3)},
		turn{prevote(3, 2, "x"), nil, at(2, 3)},
		turn{timeout(2, 3), says(propose(4, 3, 2, "x")), at(3, 1)},
	)
}

// 22.2: a round that begins because others are there is led as others are, with a valid value and without one.
func TestLeaderByAhead(t *testing.T) {
	a := started(t, 4)
	takeAll(t, a, prevote(1, 7, ""))
	checkTake(t, a, precommit(2, 7, ""), propose(4, 7, -1, "own"))
	checkState(t, a, at(7, 1))
	b := started(t, 4)
	toLock(t, b, 0)
	takeAll(t, b, precommit(2, 63, "y"))
	checkTake(t, b, precommit(1, 63, "x"), propose(4, 63, 0, "x"))
	checkState(t, b, locked(63, 1, "x", 0))
}
