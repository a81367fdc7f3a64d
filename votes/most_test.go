package votes_test

import (
	"math/rand"
	"testing"

	"sandglass/api"
	"sandglass/votes"
)

// full is all votes that there can be, of one value.
func full(t *testing.T, value string) *votes.Votes {
	t.Helper()
	v := made(t, 7, 2)
	for round := range 64 {
		for from := 1; from <= 7; from++ {
			putAll(t, v, prevote(from, round, value), precommit(from, round, value))
		}
	}
	return v
}

// 21.1: the example.
func TestExample(t *testing.T) {
	v := made(t, 4, 1)
	putAll(t, v, prevote(1, 0, "x"), prevote(2, 0, "x"))
	checkNoMost(t, v, 2, 0)
	putAll(t, v, prevote(3, 0, "x"))
	checkMost(t, v, 2, 0, "x")
}

// 21.1: n and t by 2, rounded down, and 1: one vote below it is not enough, at it and beyond it is; there are votes of another value ahead of them, or none.
func TestMostEdge(t *testing.T) {
	for _, x := range sizes() {
		for _, value := range []string{"x", "", mixed(4096, 1)} {
			for others := 0; others <= x.n-x.most; others++ {
				v := made(t, x.n, x.t)
				for from := x.n - others + 1; from <= x.n; from++ {
					putAll(t, v, prevote(from, 2, "y"))
				}
				for from := 1; from <= x.n-others; from++ {
					putAll(t, v, prevote(from, 2, value))
					if from < x.most {
						checkNoMost(t, v, 2, 2)
					} else {
						checkMost(t, v, 2, 2, value)
					}
				}
				checkNoMost(t, v, 3, 2)
				checkNoMost(t, v, 2, 1)
				checkNoMost(t, v, 2, 3)
			}
		}
	}
}

// 21.1: what is Most stays, whatever comes behind it: votes of other values, of the other kind and other rounds, and words that are refused.
func TestMostStays(t *testing.T) {
	for _, x := range sizes() {
		v := made(t, x.n, x.t)
		for from := 1; from <= x.most; from++ {
			putAll(t, v, precommit(from, 4, "x"))
		}
		checkMost(t, v, 3, 4, "x")
		for from := 1; from <= x.n; from++ {
			v.Put(precommit(from, 4, "y"))
			checkMost(t, v, 3, 4, "x")
			putAll(t, v, prevote(from, 4, "y"), precommit(from, 5, "y"))
			putNone(t, v, precommit(from, 4, ""), precommit(from+x.n, 4, "y"))
			checkMost(t, v, 3, 4, "x")
		}
		checkMost(t, v, 2, 4, "y")
		checkMost(t, v, 3, 5, "y")
		checkCount(t, v, 3, 4, "y", x.n-x.most)
	}
}

// 21.1: where each value has a vote too few, there is none, though all nodes have voted.
func TestNoMost(t *testing.T) {
	for _, x := range sizes()[1:] {
		v := made(t, x.n, x.t)
		for from := 1; from <= x.n; from++ {
			value := []string{"x", "y", ""}[(from-1)/(x.most-1)]
			putAll(t, v, prevote(from, 0, value), precommit(from, 0, string(rune('a'+from))))
			checkNoMost(t, v, 2, 0)
			checkNoMost(t, v, 3, 0)
		}
		checkCount(t, v, 2, 0, "x", x.most-1)
		checkAny(t, v, 2, 0, x.n)
		checkAny(t, v, 3, 0, x.n)
	}
}

// 21.1: of one node its one vote is Most, of whatever value.
func TestOneIsMost(t *testing.T) {
	for _, value := range []string{"x", "", mixed(4096, 1)} {
		v := made(t, 1, 0)
		checkNoMost(t, v, 2, 0)
		putAll(t, v, prevote(1, 0, value))
		checkMost(t, v, 2, 0, value)
		checkNoMost(t, v, 3, 0)
		putAll(t, v, precommit(1, 0, value))
		checkMost(t, v, 3, 0, value)
		checkAhead(t, v, -1, 0)
	}
}

// 21.1: votes of both kinds, and of two rounds, are not added up.
func TestMostApart(t *testing.T) {
	v := made(t, 4, 1)
	putAll(t, v, prevote(1, 0, "x"), prevote(2, 0, "x"), precommit(3, 0, "x"), precommit(4, 0, "x"), prevote(3, 1, "x"), prevote(4, 1, "x"), precommit(1, 1, "x"), precommit(2, 1, "x"))
	for _, round := range []int{0, 1} {
		checkNoMost(t, v, 2, round)
		checkNoMost(t, v, 3, round)
	}
	putAll(t, v, precommit(1, 0, "x"))
	checkMost(t, v, 3, 0, "x")
	checkNoMost(t, v, 2, 0)
	checkNoMost(t, v, 2, 1)
	checkNoMost(t, v, 3, 1)
}

// 21.1: all that nodes can vote at one place of three values, for every n and t, in some order, against the plain count; there is never a second value that is Most.
func TestAllVotes(t *testing.T) {
	values := []string{"x", "y", ""}
	r := rand.New(rand.NewSource(21))
	for _, x := range sizes() {
		rows := 1 << (2 * x.n)
		for row := range rows {
			v, p := made(t, x.n, x.t), &plainVotes{n: x.n, t: x.t}
			for _, k := range r.Perm(x.n) {
				if what := row >> (2 * k) & 3; what < 3 {
					w := api.Word{Kind: 2 + row%2, From: k + 1, Round: row % 64, Value: values[what]}
					putAll(t, v, w)
					p.put(w)
				}
			}
			checkPlace(t, v, p, 2+row%2, row%64, "x", "y", "", "z")
			if t.Failed() {
				t.Fatalf("n %d, t %d, row %d", x.n, x.t, row)
			}
			enough := 0
			for _, value := range values {
				if v.Count(2+row%2, row%64, value) >= x.most {
					enough++
				}
			}
			if _, is := v.Most(2+row%2, row%64); enough > 1 || is != (enough == 1) {
				t.Fatalf("n %d, t %d, row %d: %d values are most", x.n, x.t, row, enough)
			}
		}
	}
}

// T1: t nodes that vote otherwise here and there never make two values Most, each in one of two counts that share the others' votes.
func TestMostsMeet(t *testing.T) {
	for _, x := range sizes() {
		for row := range 1 << (x.n - x.t) {
			one, two := made(t, x.n, x.t), made(t, x.n, x.t)
			for from := 1; from <= x.n; from++ {
				a, b := "x", "y"
				if from > x.t {
					a = string("xy"[row>>(from-x.t-1)&1])
					b = a
				}
				putAll(t, one, prevote(from, 0, a))
				putAll(t, two, prevote(from, 0, b))
			}
			first, is := one.Most(2, 0)
			second, also := two.Most(2, 0)
			if is && also && first != second {
				t.Errorf("n %d, t %d, row %d: %q and %q", x.n, x.t, row, first, second)
			}
		}
	}
}
