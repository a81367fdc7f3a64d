package votes_test

import (
	"math/rand"
	"testing"

	"sandglass/api"
)

// someValues are a few, one of them too long, so that some of them get enough votes.
func someValues() []string {
	return []string{"x", "x", "x", "x", "x", "y", "", mixed(4096, 1), mixed(4097, 2)}
}

// anyWord is mostly a vote that may count, of few rounds.
func anyWord(r *rand.Rand, n int, values []string) api.Word {
	rounds := []int{0, 1, 30, 62, 63}
	w := api.Word{Kind: 2 + r.Intn(2), From: 1 + r.Intn(n), Round: rounds[r.Intn(5)], Valid: r.Intn(5) - 1, Value: values[r.Intn(len(values))]}
	switch r.Intn(12) {
	case 0:
		w.From = r.Intn(n+4) - 1
	case 1:
		w.Kind = r.Intn(7) - 1
	case 2:
		w.Round = r.Intn(68) - 2
	}
	return w
}

// 21.1: rows of words of all kinds, rounds and values, of all n and t, each answer against the plain count behind each word.
func TestRows(t *testing.T) {
	values := someValues()
	r := rand.New(rand.NewSource(20))
	most, ahead := 0, 0
	for _, x := range sizes() {
		for range 60 {
			v, p := made(t, x.n, x.t), &plainVotes{n: x.n, t: x.t}
			for range 100 {
				w := anyWord(r, x.n, values)
				if got, want := v.Put(w), p.put(w); got != want {
					t.Errorf("kind %d, from %d, round %d, %q: counts %v; want %v", w.Kind, w.From, w.Round, short(w.Value), got, want)
				}
				checkPlace(t, v, p, w.Kind, w.Round, "x", w.Value)
				checkPlace(t, v, p, 5-w.Kind, w.Round, "x", w.Value)
				for _, round := range []int{-1, w.Round - 1, w.Round, r.Intn(64)} {
					checkAhead(t, v, round, p.ahead(round))
				}
			}
			for kind := 0; kind <= 5; kind++ {
				for round := -1; round <= 64; round++ {
					checkPlace(t, v, p, kind, round, "x", "y", "", "z")
				}
			}
			if t.Failed() {
				t.Fatalf("n %d, t %d", x.n, x.t)
			}
			if _, is := p.most(2, 0); is {
				most++
			}
			if p.ahead(5) >= 0 {
				ahead++
			}
		}
	}
	if most < 100 || ahead < 500 {
		t.Errorf("of the rows only %d have a most, and %d a round ahead", most, ahead)
	}
}

// 21.1: the same votes in any order have the same answers in the end.
func TestAnyOrder(t *testing.T) {
	r := rand.New(rand.NewSource(23))
	for _, x := range sizes() {
		for range 30 {
			p := &plainVotes{n: x.n, t: x.t}
			for range 60 {
				p.put(anyWord(r, x.n, someValues()))
			}
			v := made(t, x.n, x.t)
			for _, k := range r.Perm(len(p.counted)) {
				putAll(t, v, p.counted[k])
			}
			for _, w := range p.counted {
				checkPlace(t, v, p, w.Kind, w.Round, "x", w.Value)
				checkAhead(t, v, w.Round, p.ahead(w.Round))
			}
			for round := -2; round <= 65; round++ {
				checkAhead(t, v, round, p.ahead(round))
			}
			if t.Failed() {
				t.Fatalf("n %d, t %d", x.n, x.t)
			}
		}
	}
}
