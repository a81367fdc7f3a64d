package agree_test

import (
	"math/rand"
	"testing"

	"sandglass/api"
)

// someValues are a few, one of them too long, so that some of them get enough votes.
func someValues() []string {
	return []string{"x", "x", "x", "x", "x", "y", "y", "", mixed(4096, 1), mixed(4097, 2)}
}

// anyWord is mostly one that may count, of the round or near it.
func anyWord(r *rand.Rand, p *plainAgree, values []string) api.Word {
	round := max(0, p.round+[]int{0, 0, 0, 0, 0, 0, -1, -2, 1, 2}[r.Intn(10)])
	// Prevotes mostly, so that there is a lock and more ahead of a decision.
	w := api.Word{Kind: 2 + r.Intn(5)/4, From: 1 + r.Intn(p.n), Round: round, Value: values[r.Intn(len(values))]}
	switch r.Intn(20) {
	case 0, 1, 2, 3:
		w.Kind, w.From, w.Valid = 1, plainLeader(p.n, p.height, min(round, 64)), r.Intn(round+1)-1
		if r.Intn(3) == 0 {
			w.Valid = -1
		}
	case 4:
		w = timeout(p.round, 1+r.Intn(3))
	case 5:
		w = timeout(p.round, p.step)
	case 6:
		w.Kind, w.From, w.Valid = r.Intn(7)-1, r.Intn(p.n+3)-1, r.Intn(6)-2
	case 7:
		w.Round = r.Intn(68) - 2
	case 8, 9:
		// What had Most of the prevotes of some round is proposed again, or something else against it.
		again := r.Intn(round + 1)
		for _, value := range values {
			if p.most(2, again, value) && again < round {
				w = propose(plainLeader(p.n, p.height, min(round, 64)), round, again, value)
			}
		}
	}
	return w
}

// 22.3: rows of words of all kinds, rounds and values, for every n, t and node, against the plain play behind each word.
func TestRows(t *testing.T) {
	t.Parallel()
	values, r := someValues(), rand.New(rand.NewSource(22))
	var applied [7]int
	forbidden, follows, rows := 0, 0, 0
	for _, x := range sizes() {
		for range 400 {
			me, height := 1+r.Intn(x.n), r.Intn(65)
			a, p := made(t, x.n, x.t, me, height, "own"), newPlain(x.n, x.t, me, height, "own")
			checkSaid(t, a.Start(), p.start()...)
			few := values[r.Intn(len(values)):]
			for range 100 {
				checkPlain(t, a, p, anyWord(r, p, few))
				if t.Failed() {
					t.Fatalf("n %d, t %d, node %d, height %d", x.n, x.t, me, height)
				}
			}
			for k := range applied {
				applied[k] += p.applied[k]
			}
			forbidden, follows, rows = forbidden+p.forbidden, follows+p.follows, rows+1
		}
	}
	for k, count := range applied {
		if count < 200 {
			t.Errorf("in %d rows rule %d (0: several at one word) applied only %d times", rows, k, count)
		}
	}
	if forbidden < 100 || follows < 100 {
		t.Errorf("in %d rows a lock forbade %d times, a value was valid alone %d times", rows, forbidden, follows)
	}
}

// 22.3: all rows of three words out of a few, from states in the midst of an agreement, against the plain play.
func TestAllRows(t *testing.T) {
	words := []api.Word{
		propose(2, 1, -1, "x"), propose(2, 1, 0, "y"), propose(3, 2, 1, "x"), propose(1, 0, -1, "y"),
		prevote(1, 1, "x"), prevote(2, 1, "x"), prevote(3, 1, "x"), prevote(2, 1, ""), prevote(3, 0, "y"),
		precommit(1, 1, "x"), precommit(3, 0, "y"), prevote(1, 2, "x"),
		timeout(0, 1), timeout(1, 1), timeout(1, 2), timeout(0, 3), timeout(1, 3),
	}
	for _, ahead := range [][]api.Word{
		nil,
		{timeout(0, 3), prevote(1, 1, "x"), prevote(4, 1, "x"), prevote(2, 0, "y"), prevote(4, 0, "y")},
		{propose(1, 0, -1, "y"), prevote(1, 0, "y"), prevote(2, 0, "y"), prevote(4, 0, "y"), precommit(1, 0, "y"), precommit(4, 0, "y"), timeout(0, 3), prevote(4, 1, "x")},
	} {
		rows := len(words) * len(words) * len(words)
		for row := range rows {
			a, p := made(t, 4, 1, 4, 0, "own"), newPlain(4, 1, 4, 0, "own")
			checkSaid(t, a.Start(), p.start()...)
			for _, w := range ahead {
				checkSaid(t, a.Take(w), p.take(w)...)
			}
			for rest, k := row, 0; k < 3; k++ {
				checkPlain(t, a, p, words[rest%len(words)])
				rest /= len(words)
			}
			if t.Failed() {
				t.Fatalf("row %d", row)
			}
		}
	}
}

// 22.3: all rows of four words of one node, against the plain play.
func TestAllRowsAlone(t *testing.T) {
	words := []api.Word{
		propose(1, 0, -1, "own"), propose(1, 1, -1, "x"), propose(1, 1, 0, "own"),
		prevote(1, 0, "own"), prevote(1, 1, "x"), prevote(1, 1, ""), prevote(1, 0, ""),
		precommit(1, 0, "own"), precommit(1, 1, "x"), timeout(0, 1), timeout(0, 2), timeout(0, 3),
	}
	rows := 1
	for range 4 {
		rows *= len(words)
	}
	for row := range rows {
		a, p := made(t, 1, 0, 1, 0, "own"), newPlain(1, 0, 1, 0, "own")
		checkSaid(t, a.Start(), p.start()...)
		for rest, k := row, 0; k < 4; k++ {
			checkPlain(t, a, p, words[rest%len(words)])
			rest /= len(words)
		}
		if t.Failed() {
			t.Fatalf("row %d", row)
		}
	}
}
