package agree_test

import (
	"math"
	"strings"
	"testing"

	"sandglass/agree"
	"sandglass/api"
	"sandglass/wire"
)

// 22.3: what is taken ahead of Start is as if it had not come: not a proposal, not a vote, not a timeout.
func TestAheadOfStart(t *testing.T) {
	for me := 1; me <= 4; me++ {
		a := made(t, 4, 1, me, 0, "own")
		for from := 1; from <= 4; from++ {
			takeAll(t, a, propose(from, 0, -1, "x"), prevote(from, 0, "x"), precommit(from, 0, "x"), prevote(from, 5, ""), precommit(from, 63, ""))
		}
		for round := -2; round <= 1; round++ {
			for step := -1; step <= 4; step++ {
				takeAll(t, a, timeout(round, step))
			}
		}
		checkState(t, a, at(-1, 0))
		a.Start()
		checkState(t, a, at(0, 1))
		// Now they count: neither was one there, nor is one barred.
		checkTake(t, a, propose(1, 0, -1, "y"), prevote(me, 0, "y"))
		takeAll(t, a, prevote(1, 0, "y"), prevote(2, 0, "y"))
		checkTake(t, a, prevote(3, 0, "y"), precommit(me, 0, "y"))
		takeAll(t, a, precommit(1, 0, "y"), precommit(2, 0, "y"))
		checkState(t, a, locked(0, 3, "y", 0))
		takeAll(t, a, precommit(3, 0, "y"))
		checkState(t, a, locked(0, 3, "y", 0).decides("y"))
	}
}

// 22.3: once decided nothing is said or done, whatever comes; the round, the step and the lock stay as they were, in each step.
func TestOnceDecided(t *testing.T) {
	for _, step := range []int{1, 2, 3} {
		a := started(t, 2)
		want := at(0, 1)
		if step >= 2 {
			checkTake(t, a, timeout(0, 1), prevote(2, 0, ""))
			want = at(0, 2)
		}
		if step == 3 {
			takeAll(t, a, propose(1, 0, -1, "x"), prevote(1, 0, "x"), prevote(3, 0, "x"))
			checkTake(t, a, prevote(4, 0, "x"), precommit(2, 0, "x"))
			want = locked(0, 3, "x", 0)
		}
		takeAll(t, a, precommit(1, 0, "x"), precommit(3, 0, "x"), precommit(4, 0, "x"))
		if step < 3 {
			takeAll(t, a, propose(1, 0, -1, "x"))
		}
		want = want.decides("x")
		checkState(t, a, want)
		for round := 0; round <= 5; round++ {
			for from := 1; from <= 4; from++ {
				takeAll(t, a, propose(from, round, -1, "y"), prevote(from, round, "y"), precommit(from, round, "y"), precommit(from, round, ""))
			}
			takeAll(t, a, timeout(round, 1), timeout(round, 2), timeout(round, 3))
		}
		checkSaid(t, a.Start())
		checkState(t, a, want)
	}
}

// checkRefused holds that a part does nothing behind words that chapter 16's Word refuses.
func checkRefused(t *testing.T, a *agree.Agree, l ...api.Word) {
	t.Helper()
	was := stateOf(a)
	for _, w := range l {
		if _, err := wire.Word(w); err != api.ErrArg {
			t.Errorf("kind %d from %d, round %d, valid %d, %q: Word takes it", w.Kind, w.From, w.Round, w.Valid, short(w.Value))
		}
		checkTake(t, a, w)
	}
	checkState(t, a, was)
}

// 22.3: proposals that chapter 16's Word refuses: a right one counts behind them.
func TestRefusedProposals(t *testing.T) {
	long := mixed(4097, 1)
	for _, round := range []int{0, 1, 4, 63} {
		leader, me := plainLeader(4, 0, round), plainLeader(4, 0, round+1)
		a := started(t, me)
		for r := range round {
			a.Take(timeout(r, 3))
		}
		checkState(t, a, at(round, 1))
		checkRefused(t, a,
			propose(leader, round, -1, ""), propose(leader, round, -1, long), propose(leader, round, -1, strings.Repeat("x", 1<<16)),
			propose(0, round, -1, "x"), propose(8, round, -1, "x"), propose(-leader, round, -1, "x"), propose(math.MinInt, round, -1, "x"), propose(math.MaxInt, round, -1, "x"))
		for _, valid := range []int{-2, -3, round, round + 1, 63, 64, 65, math.MinInt, math.MaxInt} {
			checkRefused(t, a, propose(leader, round, valid, "x"))
		}
		for _, kind := range []int{0, 5, 6, -1, -2, 257, math.MinInt, math.MaxInt} {
			checkRefused(t, a, api.Word{Kind: kind, From: leader, Round: round, Valid: -1, Value: "x"}, api.Word{Kind: kind, From: leader, Round: round, Value: "x"})
		}
		checkTake(t, a, propose(leader, round, -1, "y"), prevote(me, round, "y"))
	}
}

// 22.3: proposals of rounds that there are not, from whom would lead them: they end, and count for nothing.
func TestProposalsOfNoRound(t *testing.T) {
	a := started(t, 2)
	for _, round := range append(farInts(), -1, 64, 65, 66, math.MinInt, math.MaxInt) {
		for from := 1; from <= 4; from++ {
			checkRefused(t, a, propose(from, round, -1, "x"), propose(from, round, 0, "x"), propose(from, round, math.MinInt, "x"))
		}
	}
	checkTake(t, a, propose(1, 0, -1, "x"), prevote(2, 0, "x"))
}

// 22.3: a proposal of the longest and of the shortest Value, with the least and the greatest Valid, counts.
func TestProposalEdges(t *testing.T) {
	for _, value := range []string{"\x00", "x", mixed(4095, 1), mixed(4096, 2)} {
		a := started(t, 2)
		checkTake(t, a, propose(1, 0, -1, value), prevote(2, 0, value))
		b := started(t, 2)
		takeAll(t, b, timeout(1, 3), prevote(1, 62, value), propose(4, 63, 62, value))
		takeAll(t, b, prevote(3, 62, value))
		checkState(t, b, at(62, 1))
		takeAll(t, b, timeout(62, 3), prevote(2, 61, value), prevote(2, 62, mixed(4096, 3)))
		checkState(t, b, at(63, 1))
		checkTake(t, b, prevote(4, 62, value), prevote(2, 63, value))
	}
}

// 22.3: votes that chapter 16's Word refuses, or chapter 21's Put: they do not count, and do not bar the right ones.
func TestRefusedVotes(t *testing.T) {
	long := mixed(4097, 1)
	for _, kind := range []int{2, 3} {
		a := started(t, 2)
		checkTake(t, a, propose(1, 0, -1, "x"), prevote(2, 0, "x"))
		vote := func(from, round, valid int, value string) api.Word {
			return api.Word{Kind: kind, From: from, Round: round, Valid: valid, Value: value}
		}
		for from := 1; from <= 4; from++ {
			for _, valid := range append(farInts(), 1, 2, 3, 63, math.MinInt, math.MaxInt) {
				checkRefused(t, a, vote(from, 0, valid, "x"), vote(from, 5, valid, ""))
			}
			for _, round := range append(farInts(), 64, 65, math.MinInt, math.MaxInt) {
				checkRefused(t, a, vote(from, round, 0, "x"), vote(from, round, 0, ""))
			}
			checkRefused(t, a, vote(from, 0, 0, long))
		}
		for _, from := range append(farInts(), 0, 8, 9, math.MinInt, math.MaxInt) {
			checkRefused(t, a, vote(from, 0, 0, "x"), vote(from, 9, 0, "x"))
		}
		// Word takes these: they are no nodes here.
		for _, from := range []int{5, 6, 7} {
			takeAll(t, a, vote(from, 0, 0, "x"), vote(from, 9, 0, "x"), vote(from, 63, 0, ""))
		}
		takeAll(t, a, vote(1, 0, 0, "x"), vote(1, 0, 0, "x"), vote(2, 0, 0, "x"), vote(2, 0, 0, "x"), vote(1, 0, 0, "y"))
		checkState(t, a, at(0, 2))
		if kind == 2 {
			checkTake(t, a, vote(3, 0, 0, "x"), precommit(2, 0, "x"))
			checkState(t, a, locked(0, 3, "x", 0))
		} else {
			takeAll(t, a, vote(3, 0, 0, "x"))
			checkState(t, a, at(0, 2).decides("x"))
		}
	}
}

// 22.3: a second vote of a kind and round from a node does not count, with the same Value and with another one; the first does.
func TestSecondVotes(t *testing.T) {
	a := started(t, 2)
	checkTake(t, a, propose(1, 0, -1, "x"), prevote(2, 0, "x"))
	takeAll(t, a, prevote(1, 0, "x"), prevote(1, 0, "x"), prevote(1, 0, ""), prevote(3, 0, "y"), prevote(3, 0, "x"), prevote(2, 0, "x"), prevote(2, 0, ""))
	checkState(t, a, at(0, 2))
	checkTake(t, a, prevote(4, 0, "x"), precommit(2, 0, "x"))
	takeAll(t, a, precommit(1, 0, ""), precommit(1, 0, "x"), precommit(2, 0, "x"), precommit(2, 0, "x"), precommit(3, 0, "x"))
	checkState(t, a, locked(0, 3, "x", 0))
	takeAll(t, a, precommit(4, 0, "x"))
	checkState(t, a, locked(0, 3, "x", 0).decides("x"))
}

// 22.3: a proposal counts from its round's Leader alone, whoever that is.
func TestProposalsFromOthers(t *testing.T) {
	for _, x := range sizes() {
		for _, height := range []int{0, 1, 5, 64} {
			for round := 0; round <= 8; round++ {
				leader := plainLeader(x.n, height, round)
				me := x.n
				a := made(t, x.n, x.t, me, height, "own")
				a.Start()
				for r := range round {
					a.Take(timeout(r, 3))
				}
				for from := 1; from <= 7; from++ {
					if from != leader {
						takeAll(t, a, propose(from, round, -1, "x"))
					}
				}
				checkState(t, a, at(round, 1))
				checkTake(t, a, propose(leader, round, -1, "y"), prevote(me, round, "y"))
				checkState(t, a, at(round, 2))
			}
		}
	}
}

// 22.3: of a round's proposals the first counts, behind a second one with the same Value, with another Value and with another Valid.
func TestSecondProposal(t *testing.T) {
	for _, second := range []api.Word{propose(2, 1, -1, "x"), propose(2, 1, -1, "y"), propose(2, 1, 0, "x"), propose(2, 1, 0, "y")} {
		a := started(t, 4)
		takeAll(t, a, propose(2, 1, -1, "x"), second, second)
		play(t, a,
			turn{timeout(0, 3), says(prevote(4, 1, "x")), at(1, 2)},
			turn{second, nil, at(1, 2)},
			turn{prevote(1, 1, "x"), nil, at(1, 2)},
			turn{prevote(2, 1, "x"), nil, at(1, 2)},
			turn{prevote(3, 1, "x"), says(precommit(4, 1, "x")), locked(1, 3, "x", 1)},
			turn{second, nil, locked(1, 3, "x", 1)},
		)
	}
	// The second one's votes are those of no proposal.
	b := started(t, 4)
	checkTake(t, b, propose(1, 0, -1, "x"), prevote(4, 0, "x"))
	takeAll(t, b, propose(1, 0, -1, "y"), prevote(1, 0, "y"), prevote(2, 0, "y"), prevote(3, 0, "y"), precommit(1, 0, "y"), precommit(2, 0, "y"), precommit(3, 0, "y"))
	checkState(t, b, at(0, 2))
}

// 22.3: proposals of rounds beyond wait until their round begins; those of rounds behind say nothing by themselves, but are decided.
func TestProposalsOfOtherRounds(t *testing.T) {
	a := started(t, 4)
	takeAll(t, a, propose(2, 1, -1, "b"), propose(1, 4, -1, "e"), propose(4, 63, -1, "f"))
	checkState(t, a, at(0, 1))
	play(t, a,
		turn{timeout(0, 3), says(prevote(4, 1, "b")), at(1, 2)},
		turn{timeout(1, 3), nil, at(2, 1)},
		turn{propose(1, 0, -1, "a"), nil, at(2, 1)},
		turn{timeout(2, 3), says(propose(4, 3, -1, "own")), at(3, 1)},
		turn{propose(3, 2, -1, "c"), nil, at(3, 1)},
		turn{timeout(3, 3), says(prevote(4, 4, "e")), at(4, 2)},
		turn{precommit(1, 0, "a"), nil, at(4, 2)},
		turn{precommit(2, 2, "c"), nil, at(4, 2)},
		turn{precommit(1, 2, "c"), nil, at(4, 2)},
		turn{precommit(2, 0, "a"), nil, at(4, 2)},
		turn{precommit(4, 2, "c"), nil, at(4, 2).decides("c")},
	)
}

// inStep is node 2's part in that step of round 2, without a lock, and with no proposal; what it says next is as in the document's rules.
func inStep(t *testing.T, step int) *agree.Agree {
	t.Helper()
	a := started(t, 2)
	takeAll(t, a, prevote(1, 2, "x"))
	takeAll(t, a, prevote(3, 2, "y"))
	if step >= 2 {
		checkTake(t, a, timeout(2, 1), prevote(2, 2, ""))
	}
	if step >= 3 {
		checkTake(t, a, timeout(2, 2), precommit(2, 2, ""))
	}
	checkState(t, a, at(2, step))
	return a
}

// 22.3: a timeout of each step in each step of its own round, with any From and any Value.
func TestTimeouts(t *testing.T) {
	for _, from := range append(farInts(), 0, 1, 2, 4, 5, 8) {
		for _, value := range []string{"", "x", mixed(4097, 1)} {
			for of := 1; of <= 3; of++ {
				for step := 1; step <= 3; step++ {
					a := inStep(t, step)
					w := api.Word{Kind: api.WordTimeout, From: from, Round: 2, Valid: of, Value: value}
					switch {
					case of == 3:
						checkTake(t, a, w)
						checkState(t, a, at(3, api.StepPropose))
					case of != step:
						checkTake(t, a, w)
						checkState(t, a, at(2, step))
					case of == 1:
						checkTake(t, a, w, api.Word{Kind: api.WordPrevote, From: 2, Round: 2})
						checkState(t, a, at(2, api.StepPrevote))
					case of == 2:
						checkTake(t, a, w, api.Word{Kind: api.WordPrecommit, From: 2, Round: 2})
						checkState(t, a, at(2, api.StepPrecommit))
					}
				}
			}
		}
	}
}

// 22.3: a timeout of another round, or of no step, does nothing, in no step.
func TestNoTimeout(t *testing.T) {
	for step := 1; step <= 3; step++ {
		a := inStep(t, step)
		for _, round := range append(farInts(), 0, 1, 3, 4, 63, 64, 65, math.MinInt, math.MaxInt) {
			for of := 1; of <= 3; of++ {
				takeAll(t, a, timeout(round, of), api.Word{Kind: 4, From: 2, Round: round, Valid: of, Value: "x"})
			}
		}
		for _, of := range append(farInts(), 0, 4, 5, 6, math.MinInt, math.MaxInt) {
			for _, round := range []int{1, 2, 3} {
				takeAll(t, a, timeout(round, of), api.Word{Kind: 4, From: 2, Round: round, Valid: of, Value: "x"})
			}
		}
		checkState(t, a, at(2, step))
	}
}

// 22.3: a timeout counts as often as it comes, where its step is there.
func TestTimeoutTwice(t *testing.T) {
	a := started(t, 3)
	play(t, a,
		turn{timeout(0, 1), says(prevote(3, 0, "")), at(0, 2)},
		turn{timeout(0, 1), nil, at(0, 2)},
		turn{timeout(0, 2), says(precommit(3, 0, "")), at(0, 3)},
		turn{timeout(0, 2), nil, at(0, 3)},
		turn{timeout(0, 3), nil, at(1, 1)},
		turn{timeout(0, 3), nil, at(1, 1)},
		turn{timeout(0, 1), nil, at(1, 1)},
		turn{timeout(1, 1), says(prevote(3, 1, "")), at(1, 2)},
		turn{timeout(1, 3), says(propose(3, 2, -1, "own")), at(2, 1)},
		turn{timeout(2, 3), nil, at(3, 1)},
	)
}

// 22.3: a timeout does not touch the lock.
func TestTimeoutLocked(t *testing.T) {
	a := started(t, 4)
	toLock(t, a, 0)
	play(t, a,
		turn{timeout(0, 1), nil, locked(0, 3, "x", 0)},
		turn{timeout(0, 2), nil, locked(0, 3, "x", 0)},
		turn{timeout(0, 3), nil, locked(1, 1, "x", 0)},
		turn{timeout(1, 1), says(prevote(4, 1, "")), locked(1, 2, "x", 0)},
		turn{timeout(1, 2), says(precommit(4, 1, "")), locked(1, 3, "x", 0)},
		turn{timeout(1, 3), nil, locked(2, 1, "x", 0)},
	)
}

// 22.3: what a node says counts for itself only when it is taken: its proposal, its prevote, its precommit.
func TestOwnWords(t *testing.T) {
	a := started(t, 1)
	checkState(t, a, at(0, 1))
	play(t, a,
		turn{propose(1, 0, -1, "own"), says(prevote(1, 0, "own")), at(0, 2)},
		turn{prevote(2, 0, "own"), nil, at(0, 2)},
		turn{prevote(3, 0, "own"), nil, at(0, 2)},
		turn{prevote(1, 0, "own"), says(precommit(1, 0, "own")), locked(0, 3, "own", 0)},
		turn{precommit(2, 0, "own"), nil, locked(0, 3, "own", 0)},
		turn{precommit(3, 0, "own"), nil, locked(0, 3, "own", 0)},
		turn{precommit(1, 0, "own"), nil, locked(0, 3, "own", 0).decides("own")},
	)
	// What comes in its name counts as others' words do, though it said something else.
	b := started(t, 1)
	play(t, b,
		turn{propose(1, 0, -1, "x"), says(prevote(1, 0, "x")), at(0, 2)},
		turn{propose(1, 0, -1, "own"), nil, at(0, 2)},
		turn{prevote(1, 0, ""), nil, at(0, 2)},
		turn{prevote(1, 0, "x"), nil, at(0, 2)},
		turn{prevote(2, 0, "x"), nil, at(0, 2)},
		turn{prevote(3, 0, "x"), nil, at(0, 2)},
		turn{prevote(4, 0, "x"), says(precommit(1, 0, "x")), locked(0, 3, "x", 0)},
	)
}

// R1, R6: of any word a part ends, and does not panic: each of its fields at its edges, in each step, against the plain play.
func TestAnyWord(t *testing.T) {
	kinds := []int{math.MinInt, -1, 0, 1, 2, 3, 4, 5, math.MaxInt}
	froms := []int{math.MinInt, -1, 0, 1, 2, 4, 5, 7, 8, math.MaxInt}
	rounds := []int{math.MinInt, math.MinInt + 1, -1, 0, 1, 2, 62, 63, 64, 65, math.MaxInt - 1, math.MaxInt}
	valids := []int{math.MinInt, -2, -1, 0, 1, 2, 3, 4, 62, 63, 64, math.MaxInt}
	values := []string{"", "x", mixed(4096, 1), mixed(4097, 1)}
	for step := 1; step <= 3; step++ {
		for _, kind := range kinds {
			a, p := made(t, 4, 1, 2, 0, "own"), newPlain(4, 1, 2, 0, "own")
			checkSaid(t, a.Start(), p.start()...)
			for k := 1; k < step; k++ {
				checkPlain(t, a, p, timeout(0, k))
			}
			for _, from := range froms {
				for _, round := range rounds {
					for _, valid := range valids {
						checkPlain(t, a, p, api.Word{Kind: kind, From: from, Round: round, Valid: valid, Value: values[(valid&3+round&3)&3]})
						checkPlain(t, a, p, api.Word{Kind: kind, From: from, Round: round, Valid: valid, Value: "x"})
					}
				}
			}
		}
	}
}
