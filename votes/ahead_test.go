package votes_test

import (
	"math"
	"testing"

	"sandglass/api"
)

// 21.1: t nodes are too few, t + 1 are enough, and all are, of either kind.
func TestAheadEdge(t *testing.T) {
	for _, x := range sizes() {
		for _, kind := range []int{2, 3} {
			for _, round := range []int{0, 1, 9, 62, 63} {
				v := made(t, x.n, x.t)
				for from := x.n; from >= 1; from-- {
					if x.n-from <= x.t {
						checkAhead(t, v, -1, -1)
					}
					putAll(t, v, api.Word{Kind: kind, From: from, Round: round, Value: string(rune('a' + from))})
					if x.n-from >= x.t {
						checkAhead(t, v, round-1, round)
						checkAhead(t, v, math.MinInt, round)
					}
					checkAhead(t, v, round, -1)
					checkAhead(t, v, round+1, -1)
				}
			}
		}
	}
}

// 21.1: one node's votes of both kinds are one node; one's prevote and another one's precommit are two.
func TestAheadNodes(t *testing.T) {
	v := made(t, 4, 1)
	putAll(t, v, prevote(1, 9, "x"), precommit(1, 9, "x"))
	checkAhead(t, v, 0, -1)
	putAll(t, v, precommit(2, 9, "y"))
	checkAhead(t, v, 0, 9)

	w := made(t, 4, 1)
	putAll(t, w, prevote(4, 9, ""))
	checkAhead(t, w, 0, -1)
	putAll(t, w, precommit(1, 9, ""))
	checkAhead(t, w, 0, 9)

	two := made(t, 7, 2)
	putAll(t, two, prevote(1, 5, "x"), precommit(1, 5, "x"), prevote(7, 5, "x"), precommit(7, 5, "y"))
	putNone(t, two, prevote(1, 5, "x"), precommit(7, 5, "x"), prevote(8, 5, "x"), prevote(0, 5, "x"))
	checkAhead(t, two, 4, -1)
	putAll(t, two, prevote(3, 5, "z"))
	checkAhead(t, two, 4, 5)
}

// 21.1: votes in several rounds are not added up.
func TestAheadApart(t *testing.T) {
	v := made(t, 7, 2)
	for round := range 64 {
		putAll(t, v, prevote(1+round%7, round, "x"), precommit(1+(round+1)%7, round, "x"))
	}
	checkAhead(t, v, -1, -1)
	// Nodes 5 and 6 have one there.
	putAll(t, v, prevote(7, 32, "x"))
	checkAhead(t, v, -1, 32)
	checkAhead(t, v, 31, 32)
	checkAhead(t, v, 32, -1)
}

// 21.1: of several such rounds it is the greatest, whatever order they came in; the round that is asked for is not beyond itself.
func TestAheadGreatest(t *testing.T) {
	for _, rounds := range [][]int{{3, 20, 41}, {41, 20, 3}, {20, 41, 3}} {
		v := made(t, 4, 1)
		for _, round := range rounds {
			putAll(t, v, prevote(1, round, "x"), precommit(2, round, ""))
		}
		// One node alone, in a round still beyond.
		putAll(t, v, prevote(3, 50, "x"), precommit(3, 50, "x"))
		for round := -3; round <= 66; round++ {
			want := -1
			if round < 41 {
				want = 41
			}
			checkAhead(t, v, round, want)
		}
	}
}

// 21.1: a round with votes between one that is asked for and none beyond: the least ones are told too.
func TestAheadNext(t *testing.T) {
	for round := range 64 {
		v := made(t, 1, 0)
		putAll(t, v, precommit(1, round, ""))
		for asked := -2; asked <= 65; asked++ {
			want := -1
			if asked < round {
				want = round
			}
			checkAhead(t, v, asked, want)
		}
	}
}

// 21.1, R6: the rounds at the edges, and the least and the greatest int.
func TestAheadFar(t *testing.T) {
	v := full(t, "x")
	for _, round := range []int{-1, -2, -64, -65, math.MinInt, math.MinInt + 1, 0, 1, 61, 62} {
		checkAhead(t, v, round, 63)
	}
	for _, round := range []int{63, 64, 65, 127, 128, math.MaxInt, math.MaxInt - 1} {
		checkAhead(t, v, round, -1)
	}
	for _, k := range farInts() {
		want := -1
		if k < 63 {
			want = 63
		}
		checkAhead(t, v, k, want)
	}
	first := made(t, 4, 1)
	putAll(t, first, prevote(1, 0, ""), prevote(2, 0, ""))
	for _, round := range []int{-1, -2, math.MinInt} {
		checkAhead(t, first, round, 0)
	}
	for _, round := range []int{0, 1, 63, math.MaxInt} {
		checkAhead(t, first, round, -1)
	}
}

// 21.1: all that nodes can have in one round (no vote, one of either kind, both), for every n and t, against the plain count.
func TestAllAhead(t *testing.T) {
	for _, x := range sizes() {
		for row := range 1 << (2 * x.n) {
			v, p := made(t, x.n, x.t), &plainVotes{n: x.n, t: x.t}
			for k := range 2 * x.n {
				if row>>k&1 == 1 {
					w := api.Word{Kind: 2 + k%2, From: 1 + k/2, Round: 12, Value: "xy"[k%2 : k%2+1]}
					putAll(t, v, w)
					p.put(w)
				}
			}
			checkAhead(t, v, 11, p.ahead(11))
			if t.Failed() {
				t.Fatalf("n %d, t %d, row %d", x.n, x.t, row)
			}
		}
	}
}
