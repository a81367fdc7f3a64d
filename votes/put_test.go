package votes_test

import (
	"math"
	"strings"
	"testing"

	"sandglass/api"
)

// 21.1: prevotes and precommits count, by api's names; the other kinds and numbers that are no kind do not.
func TestKinds(t *testing.T) {
	v := made(t, 4, 1)
	noKinds := append(farInts(), api.WordProposal, api.WordTimeout, 0, 1, 4, 5, 6, -1, math.MinInt, math.MaxInt)
	for _, kind := range noKinds {
		for from := 0; from <= 5; from++ {
			putNone(t, v, api.Word{Kind: kind, From: from, Round: 3, Value: "x"}, api.Word{Kind: kind, From: from})
		}
		checkCount(t, v, kind, 3, "x", 0)
		checkAny(t, v, kind, 3, 0)
		checkNoMost(t, v, kind, 3)
	}
	checkEmpty(t, v)
	putAll(t, v, api.Word{Kind: api.WordPrevote, From: 1, Round: 3, Value: "x"}, api.Word{Kind: api.WordPrecommit, From: 1, Round: 3, Value: "x"})
	checkCount(t, v, api.WordPrevote, 3, "x", 1)
	checkCount(t, v, api.WordPrecommit, 3, "x", 1)
	for _, kind := range noKinds {
		checkCount(t, v, kind, 3, "x", 0)
		checkAny(t, v, kind, 3, 0)
	}
}

// 21.1: nodes 1 to n have a vote, of each kind; those below and beyond have none, and what they say is not counted.
func TestFrom(t *testing.T) {
	for _, x := range sizes() {
		v := made(t, x.n, x.t)
		strangers := append(farInts(), 0, x.n+1, x.n+2, 8, 9, -x.n, math.MinInt, math.MaxInt)
		for _, from := range strangers {
			putNone(t, v, prevote(from, 0, "x"), precommit(from, 63, "x"), prevote(from, 5, ""))
		}
		checkEmpty(t, v)
		for from := 1; from <= x.n; from++ {
			putAll(t, v, precommit(from, 5, "x"), prevote(from, 5, "x"))
			checkAny(t, v, 2, 5, from)
			checkAny(t, v, 3, 5, from)
		}
		for _, from := range strangers {
			putNone(t, v, prevote(from, 5, "x"), precommit(from, 5, "x"))
		}
		checkCount(t, v, 2, 5, "x", x.n)
		checkCount(t, v, 3, 5, "x", x.n)
	}
}

// 21.1: a vote is of a round of 0 to 63.
func TestRounds(t *testing.T) {
	v := made(t, 4, 1)
	noRounds := append(farInts(), -1, 64, 65, 66, 127, 128, -64, math.MinInt, math.MaxInt)
	for _, round := range noRounds {
		for from := 1; from <= 4; from++ {
			putNone(t, v, prevote(from, round, "x"), precommit(from, round, ""))
		}
		checkCount(t, v, 2, round, "x", 0)
		checkAny(t, v, 3, round, 0)
		checkNoMost(t, v, 2, round)
		checkAhead(t, v, round, -1)
	}
	checkEmpty(t, v)
	for round := range 64 {
		putAll(t, v, prevote(1, round, "x"), precommit(1, round, ""), prevote(2, round, "x"))
		checkCount(t, v, 2, round, "x", 2)
		checkCount(t, v, 3, round, "", 1)
		checkAhead(t, v, round-1, round)
		checkAny(t, v, 2, round+1, 0)
	}
	// What a round that is none would fall together with is not asked by it.
	for _, round := range noRounds {
		checkCount(t, v, 2, round, "x", 0)
		checkCount(t, v, 3, round, "", 0)
		checkAny(t, v, 2, round, 0)
		checkNoMost(t, v, 2, round)
	}
}

// 21.1: a value has at most MaxBody bytes, and may have none; all bytes count.
func TestValues(t *testing.T) {
	v := made(t, 7, 2)
	most, long := strings.Repeat("x", 4096), strings.Repeat("x", 4097)
	putAll(t, v, prevote(1, 0, ""), prevote(2, 0, "\x00"), prevote(3, 0, "\x00\x00"), prevote(4, 0, most), prevote(5, 0, most[1:]), prevote(6, 0, most[1:]+"y"))
	putNone(t, v, prevote(7, 0, long), prevote(7, 0, strings.Repeat("x", 8192)), prevote(7, 0, strings.Repeat("x", 1<<20)))
	for _, value := range []string{"", "\x00", "\x00\x00", most, most[1:], most[1:] + "y"} {
		checkCount(t, v, 2, 0, value, 1)
	}
	for _, value := range []string{"x", "\x00\x00\x00", long, "y" + most[1:], most[2:]} {
		checkCount(t, v, 2, 0, value, 0)
	}
	checkAny(t, v, 2, 0, 6)
	if len(most) != api.MaxBody {
		t.Errorf("MaxBody is %d", api.MaxBody)
	}
}

// 21.1: whatever Valid is, it has no say: neither in whether a vote counts, nor in which it is.
func TestValid(t *testing.T) {
	for _, valid := range append(farInts(), 0, 1, 2, 3, 63, 64) {
		v := made(t, 4, 1)
		for from := 1; from <= 3; from++ {
			w := prevote(from, 3, "x")
			w.Valid = valid
			putAll(t, v, w)
			w.Valid = from
			putNone(t, v, w, prevote(from, 3, "x"))
		}
		checkCount(t, v, 2, 3, "x", 3)
		checkAny(t, v, 2, 3, 3)
		checkMost(t, v, 2, 3, "x")
		wrong := api.Word{Kind: 1, From: 4, Round: 3, Valid: valid, Value: "x"}
		putNone(t, v, wrong)
		wrong.Kind, wrong.Round = 2, 64
		putNone(t, v, wrong)
		checkAny(t, v, 2, 3, 3)
	}
}

// 21.1: a second vote of a kind and round from a node does not count, with the same value and with another one; the first stays.
func TestSecondVote(t *testing.T) {
	for _, kind := range []int{2, 3} {
		for _, first := range []string{"x", "", mixed(4096, 1)} {
			for _, second := range []string{"x", "y", "", mixed(4096, 1), mixed(4097, 1)} {
				v := made(t, 4, 1)
				for from := 1; from <= 2; from++ {
					w := api.Word{Kind: kind, From: from, Round: 7, Value: first}
					putAll(t, v, w)
					w.Value = second
					putNone(t, v, w, w)
					w.Value = first
					putNone(t, v, w)
				}
				checkAny(t, v, kind, 7, 2)
				checkCount(t, v, kind, 7, first, 2)
				if second != first {
					checkCount(t, v, kind, 7, second, 0)
				}
				checkNoMost(t, v, kind, 7)
				putAll(t, v, api.Word{Kind: kind, From: 3, Round: 7, Value: first})
				checkMost(t, v, kind, 7, first)
			}
		}
	}
}

// 21.1: one node's second votes never make a value Most, nor a round be ahead.
func TestOneNode(t *testing.T) {
	for _, x := range sizes() {
		v := made(t, x.n, x.t)
		putAll(t, v, prevote(1, 9, "x"))
		for range 20 {
			putNone(t, v, prevote(1, 9, "x"), prevote(1, 9, "y"), prevote(1, 9, ""))
		}
		checkAny(t, v, 2, 9, 1)
		if x.n > 1 {
			checkNoMost(t, v, 2, 9)
		} else {
			checkMost(t, v, 2, 9, "x")
		}
		if x.t > 0 {
			checkAhead(t, v, 0, -1)
		} else {
			checkAhead(t, v, 0, 9)
		}
	}
}

// 21.1: the same node's votes of the other kind and of other rounds count, in whatever order.
func TestPlacesApart(t *testing.T) {
	v := made(t, 4, 1)
	for _, round := range []int{5, 0, 63, 6, 4, 32} {
		putAll(t, v, precommit(2, round, "x"))
		putNone(t, v, precommit(2, round, "y"))
		putAll(t, v, prevote(2, round, "y"))
		putNone(t, v, prevote(2, round, "x"))
		checkCount(t, v, 3, round, "x", 1)
		checkCount(t, v, 2, round, "y", 1)
		checkCount(t, v, 3, round, "y", 0)
		checkCount(t, v, 2, round, "x", 0)
	}
	for round := range 64 {
		want := 0
		switch round {
		case 0, 4, 5, 6, 32, 63:
			want = 1
		}
		checkAny(t, v, 2, round, want)
		checkAny(t, v, 3, round, want)
	}
}

// 21.1: what is refused is as if it had not come: the same node's right word counts behind it.
func TestRefusedThenRight(t *testing.T) {
	for _, wrong := range []api.Word{
		{Kind: 1, From: 3, Round: 8, Value: "x"},
		{Kind: 4, From: 3, Round: 8, Value: "x"},
		{Kind: 0, From: 3, Round: 8, Value: "x"},
		prevote(3, 64, "x"), prevote(3, -1, "x"),
		prevote(3, 8, mixed(4097, 1)), precommit(3, 8, mixed(4097, 1)),
		prevote(0, 8, "x"), prevote(5, 8, "x"), prevote(-3, 8, "x"),
	} {
		v := made(t, 4, 1)
		putNone(t, v, wrong, wrong)
		checkEmpty(t, v)
		putAll(t, v, prevote(3, 8, "x"), precommit(3, 8, "y"))
		putNone(t, v, wrong, prevote(3, 8, "x"))
		checkCount(t, v, 2, 8, "x", 1)
		checkCount(t, v, 3, 8, "y", 1)
		putAll(t, v, prevote(1, 8, "x"), prevote(2, 8, "x"))
		checkMost(t, v, 2, 8, "x")
	}
}

// R1, R6: of ints at their edges, in each field at once, no word counts, and each call ends.
func TestAnyWord(t *testing.T) {
	ints := append(farInts(), 0, 1, 2, 3, 4, 5, 63, 64)
	edges := []int{math.MinInt, math.MinInt + 1, -1, 0, 1, 2, 3, 4, 5, 63, 64, math.MaxInt - 1, math.MaxInt}
	v := made(t, 4, 1)
	for _, a := range ints {
		for _, b := range edges {
			for _, c := range edges {
				for _, w := range []api.Word{{Kind: a, From: b, Round: c}, {Kind: b, From: a, Round: c}, {Kind: b, From: c, Round: a}} {
					if w.Kind == 2 || w.Kind == 3 {
						if w.From >= 1 && w.From <= 4 && w.Round >= 0 && w.Round <= 63 {
							continue
						}
					}
					w.Valid = a
					putNone(t, v, w)
				}
			}
		}
	}
	checkEmpty(t, v)
}
