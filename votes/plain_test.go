package votes_test

import (
	"math"
	"testing"

	"sandglass/api"
	"sandglass/votes"
)

// mixed is a text of that length; other seeds have other ones.
func mixed(length int, seed uint64) string {
	b := make([]byte, length)
	x := seed*2 + 1
	for i := range b {
		x = x*6364136223846793005 + 1442695040888963407
		b[i] = byte(x >> 56)
	}
	return string(b)
}

func short(s string) string { return s[:min(len(s), 20)] }

func prevote(from, round int, value string) api.Word {
	return api.Word{Kind: 2, From: from, Round: round, Value: value}
}

func precommit(from, round int, value string) api.Word {
	return api.Word{Kind: 3, From: from, Round: round, Value: value}
}

// size is how many nodes there are, how many of them may be wrong, and how many votes are Most.
type size struct{ n, t, most int }

// sizes are all that there are, written out.
func sizes() []size {
	return []size{
		{1, 0, 1}, {2, 0, 2}, {3, 0, 2}, {4, 0, 3}, {5, 0, 3}, {6, 0, 4}, {7, 0, 4},
		{4, 1, 3}, {5, 1, 4}, {6, 1, 4}, {7, 1, 5},
		{7, 2, 5},
	}
}

// isSize tells whether there are votes of that n and t.
func isSize(n, t int) bool {
	for _, x := range sizes() {
		if x.n == n && x.t == t {
			return true
		}
	}
	return false
}

// farInts are ints at and near their edges, such as go round when they are doubled or trebled, and such as are small once bits are cut off.
func farInts() []int {
	l := []int{-1, -2, -3, -7, -64, -65, 65, 66, 127, 128, 255, 256, 257, 258, 259, 260, 1 << 16, 1<<16 + 2, 1 << 32, 1<<32 + 2, 1<<32 + 3}
	for _, k := range []int{math.MaxInt, math.MaxInt / 2, math.MaxInt / 3, math.MinInt, math.MinInt / 2, math.MinInt / 3} {
		for d := -8; d <= 8; d++ {
			l = append(l, k+d)
		}
	}
	return l
}

// plainVotes is all words that counted, in order; they are gone over again at each question.
type plainVotes struct {
	n, t    int
	counted []api.Word
}

// how is how many of the words that counted are such.
func (p *plainVotes) how(is func(w api.Word) bool) int {
	n := 0
	for _, w := range p.counted {
		if is(w) {
			n++
		}
	}
	return n
}

func (p *plainVotes) put(w api.Word) bool {
	if w.Kind != 2 && w.Kind != 3 || w.From <= 0 || w.From > p.n || w.Round <= -1 || w.Round >= 64 || len(w.Value) >= 4097 {
		return false
	}
	if p.how(func(x api.Word) bool { return x.Kind == w.Kind && x.Round == w.Round && x.From == w.From }) != 0 {
		return false
	}
	p.counted = append(p.counted, w)
	return true
}

func (p *plainVotes) count(kind, round int, value string) int {
	return p.how(func(x api.Word) bool { return x.Kind == kind && x.Round == round && x.Value == value })
}

func (p *plainVotes) any(kind, round int) int {
	return p.how(func(x api.Word) bool { return x.Kind == kind && x.Round == round })
}

func (p *plainVotes) most(kind, round int) (string, bool) {
	// More than half of n + t: the double of it is greater.
	for _, w := range p.counted {
		if 2*p.count(kind, round, w.Value) > p.n+p.t {
			return w.Value, true
		}
	}
	return "", false
}

func (p *plainVotes) ahead(round int) int {
	best := -1
	for _, w := range p.counted {
		nodes := map[int]int{}
		for _, x := range p.counted {
			if x.Round == w.Round {
				nodes[x.From]++
			}
		}
		if w.Round > round && len(nodes) >= p.t+1 {
			best = max(best, w.Round)
		}
	}
	return best
}

// made is what there is of n and t.
func made(t *testing.T, n, wrong int) *votes.Votes {
	t.Helper()
	v := votes.New(n, wrong)
	if v == nil {
		t.Fatalf("n %d, t %d: no votes", n, wrong)
	}
	return v
}

// putAll hands words to v that count.
func putAll(t *testing.T, v *votes.Votes, l ...api.Word) {
	t.Helper()
	for _, w := range l {
		if !v.Put(w) {
			t.Errorf("kind %d, from %d, round %d, %q (%d bytes): it does not count", w.Kind, w.From, w.Round, short(w.Value), len(w.Value))
		}
	}
}

// putNone hands words to v that do not count.
func putNone(t *testing.T, v *votes.Votes, l ...api.Word) {
	t.Helper()
	for _, w := range l {
		if v.Put(w) {
			t.Errorf("kind %d, from %d, round %d, %q (%d bytes): it counts", w.Kind, w.From, w.Round, short(w.Value), len(w.Value))
		}
	}
}

func checkCount(t *testing.T, v *votes.Votes, kind, round int, value string, want int) {
	t.Helper()
	if got := v.Count(kind, round, value); got != want {
		t.Errorf("kind %d, round %d, %q: %d votes; want %d", kind, round, short(value), got, want)
	}
}

func checkAny(t *testing.T, v *votes.Votes, kind, round, want int) {
	t.Helper()
	if got := v.Any(kind, round); got != want {
		t.Errorf("kind %d, round %d: %d votes; want %d", kind, round, got, want)
	}
}

func checkMost(t *testing.T, v *votes.Votes, kind, round int, want string) {
	t.Helper()
	if value, is := v.Most(kind, round); !is || value != want {
		t.Errorf("kind %d, round %d: most is %q, %v; want %q", kind, round, short(value), is, short(want))
	}
}

func checkNoMost(t *testing.T, v *votes.Votes, kind, round int) {
	t.Helper()
	if value, is := v.Most(kind, round); is || value != "" {
		t.Errorf("kind %d, round %d: most is %q, %v; want none", kind, round, short(value), is)
	}
}

func checkAhead(t *testing.T, v *votes.Votes, round, want int) {
	t.Helper()
	if got := v.Ahead(round); got != want {
		t.Errorf("ahead of %d: %d; want %d", round, got, want)
	}
}

// checkPlace asks all of a kind and a round, and holds it against the plain count.
func checkPlace(t *testing.T, v *votes.Votes, p *plainVotes, kind, round int, values ...string) {
	t.Helper()
	for _, value := range values {
		checkCount(t, v, kind, round, value, p.count(kind, round, value))
	}
	checkAny(t, v, kind, round, p.any(kind, round))
	if value, is := p.most(kind, round); is {
		checkMost(t, v, kind, round, value)
	} else {
		checkNoMost(t, v, kind, round)
	}
}

// checkEmpty holds that v has no vote: of no kind, round or value, and no round ahead.
func checkEmpty(t *testing.T, v *votes.Votes) {
	t.Helper()
	for kind := -1; kind <= 5; kind++ {
		for round := -2; round <= 65; round++ {
			checkCount(t, v, kind, round, "", 0)
			checkCount(t, v, kind, round, "x", 0)
			checkAny(t, v, kind, round, 0)
			checkNoMost(t, v, kind, round)
		}
	}
	for round := -3; round <= 66; round++ {
		checkAhead(t, v, round, -1)
	}
}

// The plain count itself, against what was counted by hand.
func TestPlainCount(t *testing.T) {
	p := &plainVotes{n: 4, t: 1}
	for i, x := range []struct {
		w                 api.Word
		counts            bool
		ofX, any          int
		most              bool
		beyond2, beyondNo int
	}{
		{prevote(0, 3, "x"), false, 0, 0, false, -1, -1},
		{prevote(5, 3, "x"), false, 0, 0, false, -1, -1},
		{prevote(1, -1, "x"), false, 0, 0, false, -1, -1},
		{prevote(1, 64, "x"), false, 0, 0, false, -1, -1},
		{prevote(1, 3, mixed(4097, 1)), false, 0, 0, false, -1, -1},
		{api.Word{Kind: 1, From: 1, Round: 3, Value: "x"}, false, 0, 0, false, -1, -1},
		{api.Word{Kind: 4, From: 1, Round: 3, Value: "x"}, false, 0, 0, false, -1, -1},
		{prevote(1, 3, "x"), true, 1, 1, false, -1, -1},
		{prevote(1, 3, "y"), false, 1, 1, false, -1, -1},
		{precommit(1, 3, "x"), true, 1, 1, false, -1, -1},
		{prevote(2, 3, ""), true, 1, 2, false, 3, 3},
		{prevote(4, 3, "x"), true, 2, 3, false, 3, 3},
		{prevote(4, 9, "x"), true, 2, 3, false, 3, 3},
		{precommit(3, 9, "x"), true, 2, 3, false, 9, 9},
		{prevote(3, 2, "x"), true, 2, 3, false, 9, 9},
		{prevote(3, 3, "x"), true, 3, 4, true, 9, 9},
	} {
		counts := p.put(x.w)
		value, is := p.most(2, 3)
		if counts != x.counts || p.count(2, 3, "x") != x.ofX || p.any(2, 3) != x.any || is != x.most || is != (value == "x") || p.ahead(2) != x.beyond2 || p.ahead(-9) != x.beyondNo {
			t.Errorf("%d: %v, %d of x, %d in all, most %q, %v, ahead %d, %d", i, counts, p.count(2, 3, "x"), p.any(2, 3), value, is, p.ahead(2), p.ahead(-9))
		}
	}
	if p.ahead(3) != 9 || p.ahead(8) != 9 || p.ahead(9) != -1 {
		t.Error("ahead")
	}
}
