package agree_test

import (
	"math/rand"
	"slices"
	"strconv"
	"testing"

	"sandglass/agree"
	"sandglass/api"
)

// letter is a word on its way to a node.
type letter struct {
	to int
	w  api.Word
}

// nodes are the honest ones of an agreement, by their numbers, each with its plain play; and the letters that are on their way to them.
type nodes struct {
	t     *testing.T
	n     int
	parts map[int]*agree.Agree
	plain map[int]*plainAgree
	mail  []letter
	wrong func(w api.Word) // what the wrong nodes do when an honest one says something; they may be silent
}

func own(k int) string { return "value " + strconv.Itoa(k) }

// gathered are nodes 1 to n without the wrong ones, started, each with a value of its own.
func gathered(t *testing.T, x size, height int, wrong ...int) *nodes {
	t.Helper()
	g := &nodes{t: t, n: x.n, parts: map[int]*agree.Agree{}, plain: map[int]*plainAgree{}}
	for k := 1; k <= x.n; k++ {
		if !slices.Contains(wrong, k) {
			g.parts[k], g.plain[k] = made(t, x.n, x.t, k, height, own(k)), newPlain(x.n, x.t, k, height, own(k))
		}
	}
	return g
}

// start lets all begin, in the order of their numbers.
func (g *nodes) start() {
	for k := 1; k <= g.n; k++ {
		if g.parts[k] != nil {
			said := g.parts[k].Start()
			checkSaid(g.t, said, g.plain[k].start()...)
			g.spread(said)
		}
	}
}

// spread puts words to each honest node on their way, who said them too.
func (g *nodes) spread(l []api.Word) {
	for _, w := range l {
		for to := 1; to <= g.n; to++ {
			g.send(to, w)
		}
		if g.wrong != nil {
			g.wrong(w)
		}
	}
}

func (g *nodes) send(to int, w api.Word) {
	if g.parts[to] != nil {
		g.mail = append(g.mail, letter{to, w})
	}
}

// take hands w to a node and to its plain play.
func (g *nodes) take(to int, w api.Word) {
	g.spread(checkPlain(g.t, g.parts[to], g.plain[to], w))
}

// out takes the k-th letter away.
func (g *nodes) out(k int) letter {
	l := g.mail[k]
	g.mail = slices.Delete(g.mail, k, k+1)
	return l
}

func (g *nodes) arrive(k int) {
	l := g.out(k)
	g.take(l.to, l.w)
}

// timeout is one of the node's round.
func (g *nodes) timeout(k, step int) {
	round, _ := g.parts[k].At()
	g.take(k, timeout(round, step))
}

// decision is what those who have decided decided, and how many they are; no two may decide otherwise.
func (g *nodes) decision() (string, int) {
	first, count := "", 0
	for k := 1; k <= g.n; k++ {
		value, is := g.parts[k].Decided()
		if is && count > 0 && value != first {
			g.t.Errorf("one node decides %q, node %d %q", first, k, value)
		}
		if is {
			first, count = value, count+1
		}
	}
	return first, count
}

// last lets those in the least round have that timeout, as if their clocks went alike; others wait for them.
func (g *nodes) last(step int) {
	least := 64
	for k, a := range g.parts {
		if _, is := a.Decided(); !is {
			round, _ := g.parts[k].At()
			least = min(least, round)
		}
	}
	for k := 1; k <= g.n; k++ {
		if g.parts[k] == nil {
			continue
		}
		if round, _ := g.parts[k].At(); round == least {
			g.timeout(k, step)
		}
	}
}

// finish lets all letters arrive in time, and timeouts come where nothing else does, until all have decided, or for so many rounds.
func (g *nodes) finish(r *rand.Rand, rounds int) {
	for range rounds {
		for step := 1; step <= 3; step++ {
			for len(g.mail) > 0 {
				g.arrive(r.Intn(len(g.mail)))
			}
			if _, count := g.decision(); count == len(g.parts) || g.t.Failed() {
				return
			}
			g.last(step)
		}
	}
}

// 22.4, T1: honest nodes whose letters arrive in order decide what the first Leader would have, in round 0, and say just what the rules tell them.
func TestInOrder(t *testing.T) {
	for _, x := range sizes() {
		for _, height := range []int{0, 1, 5, 64} {
			g := gathered(t, x, height)
			g.start()
			for len(g.mail) > 0 {
				g.arrive(0)
			}
			value, count := g.decision()
			if want := own(plainLeader(x.n, height, 0)); value != want || count != x.n {
				t.Errorf("n %d, t %d: %d decide %q; want %q", x.n, x.t, count, value, want)
			}
			for k := 1; k <= x.n; k++ {
				checkState(t, g.parts[k], locked(0, 3, value, 0).decides(value))
			}
		}
	}
}

// unruly lets letters arrive in any order, some twice, some late, with timeouts between them.
func (g *nodes) unruly(r *rand.Rand, steps, timeouts int) {
	var late []letter
	for range steps {
		if r.Intn(100) < timeouts {
			if k := 1 + r.Intn(g.n); g.parts[k] != nil {
				g.timeout(k, []int{1, 1, 1, 2, 2, 3}[r.Intn(6)])
			}
		}
		if len(g.mail) == 0 {
			continue
		}
		k := r.Intn(len(g.mail))
		switch r.Intn(12) {
		case 0:
			g.mail = append(g.mail, g.mail[k])
		case 1, 2:
			late = append(late, g.out(k))
			continue
		}
		g.arrive(k)
		g.decision()
	}
	g.mail = append(g.mail, late...)
}

// 22.4, T1: whole agreements for every n and t, in random order, some words twice and some late, with timeouts, each node against its plain play; no two decide otherwise, and in the end all decide what one of them would have.
func TestWhole(t *testing.T) {
	t.Parallel()
	r := rand.New(rand.NewSource(23))
	later := 0
	for _, x := range sizes() {
		for play := range 120 {
			g := gathered(t, x, r.Intn(65))
			g.start()
			g.unruly(r, 40*x.n, play%20)
			g.finish(r, 200)
			value, count := g.decision()
			if count != x.n || !isOwn(value, x.n) {
				t.Errorf("%d decide %q", count, value)
			}
			if round, _ := g.parts[1].At(); round > 0 {
				later++
			}
			if t.Failed() {
				t.Fatalf("n %d, t %d, play %d", x.n, x.t, play)
			}
		}
	}
	if later < 200 {
		t.Errorf("only %d agreements needed more than a round", later)
	}
}

// isOwn tells whether one of n nodes would have the value.
func isOwn(value string, n int) bool {
	for k := 1; k <= n; k++ {
		if value == own(k) {
			return true
		}
	}
	return false
}

// 22.4, T1: t nodes that say nothing at all: the others decide.
func TestSilent(t *testing.T) {
	r := rand.New(rand.NewSource(24))
	for _, x := range sizes()[7:] {
		for range 80 {
			wrong := r.Perm(x.n)[:x.t]
			for i := range wrong {
				wrong[i]++
			}
			g := gathered(t, x, r.Intn(65), wrong...)
			g.start()
			g.unruly(r, 30*x.n, r.Intn(10))
			g.finish(r, 200)
			if value, count := g.decision(); count != x.n-x.t || !isOwn(value, x.n) {
				t.Errorf("%d decide %q", count, value)
			}
			if t.Failed() {
				t.Fatalf("n %d, t %d, silent %v", x.n, x.t, wrong)
			}
		}
	}
}

// liars lets wrong nodes answer all that is said: to each honest node they say a vote of what was said, of something else or of none, in that round; and where they lead, they propose to each what they like.
func (g *nodes) liars(r *rand.Rand, height int, wrong []int) {
	values := []string{own(1), own(2)}
	tell := func(w api.Word) {
		for _, from := range wrong {
			for to := 1; to <= g.n; to++ {
				if r.Intn(3) == 0 {
					continue
				}
				value := w.Value
				if r.Intn(4) == 0 {
					value = values[r.Intn(2)]
				}
				g.send(to, api.Word{Kind: 2 + r.Intn(2), From: from, Round: w.Round, Value: value})
				if lead := w.Round + r.Intn(2); lead < 64 && plainLeader(g.n, height, lead) == from {
					g.send(to, propose(from, lead, r.Intn(lead+1)-1, values[r.Intn(2)]))
				}
			}
		}
	}
	g.wrong = func(w api.Word) {
		if w.Value != "" && !slices.Contains(values, w.Value) {
			values[r.Intn(2)] = w.Value
		}
		tell(w)
	}
	for _, round := range []int{0, 1, 2} {
		tell(prevote(0, round, values[r.Intn(2)]))
	}
}

// 22.4, T1: t nodes say other things to each, about what honest ones say, and letters are late, twice there or lost: no two decide otherwise, at any time.
func TestWrongNodes(t *testing.T) {
	t.Parallel()
	r := rand.New(rand.NewSource(25))
	decided, split := 0, 0
	for _, x := range sizes()[7:] {
		for play := range 250 {
			height, wrong := r.Intn(65), r.Perm(x.n)[:x.t]
			for i := range wrong {
				wrong[i]++
			}
			g := gathered(t, x, height, wrong...)
			g.liars(r, height, wrong)
			g.start()
			for range 60 * x.n {
				if r.Intn(6) == 0 {
					if k := 1 + r.Intn(x.n); g.parts[k] != nil {
						g.timeout(k, 1+r.Intn(3))
					}
				}
				if len(g.mail) == 0 {
					continue
				}
				// Of a few of the oldest letters, so that nodes see them in other orders, and yet go on.
				k := r.Intn(min(len(g.mail), 4*x.n))
				switch r.Intn(30) {
				case 0:
					g.out(k)
					continue
				case 1:
					g.mail = append(g.mail, g.mail[k])
				}
				g.arrive(k)
				if _, count := g.decision(); count > 0 && count < len(g.parts) {
					split++
				}
			}
			if _, count := g.decision(); count > 0 {
				decided++
			}
			if t.Failed() {
				t.Fatalf("n %d, t %d, play %d, wrong: %v", x.n, x.t, play, wrong)
			}
		}
	}
	if decided < 300 || split < 1000 {
		t.Errorf("in %d plays a node decided, at %d times some had and some had not", decided, split)
	}
}

// choice is the k-th digit of a number whose digits are 0 (nothing is said), 1 and 2.
func choice(number, k int) int {
	for range k {
		number /= 3
	}
	return number % 3
}

// 22.4, T1: of four nodes the first Leader is wrong, and says to each, of each kind, nothing, x or y: all that it can say in round 0. Then the others go on without it: no two decide otherwise.
func TestWrongLeader(t *testing.T) {
	t.Parallel()
	counts := map[string]int{}
	for number := range 19683 {
		r := rand.New(rand.NewSource(int64(number)))
		g := gathered(t, size{4, 1}, 0, 1)
		for k := range 9 {
			if what := choice(number, k); what != 0 {
				w := api.Word{Kind: 1 + k%3, From: 1, Value: " xy"[what : what+1]}
				if w.Kind == 1 {
					w.Valid = -1
				}
				g.send(2+k/3, w)
			}
		}
		g.start()
		g.finish(r, 3)
		value, count := g.decision()
		counts[value]++
		// Where it says a prevote to one alone, that one may have a lock of which the others never know, and none decides.
		if count > 0 && value != "x" && value != "y" && !isOwn(value, 4) {
			t.Errorf("%d decide %q", count, value)
		}
		if t.Failed() {
			t.Fatalf("the Leader says %d", number)
		}
	}
	if counts["x"] == 0 || counts["y"] == 0 || counts[own(2)] == 0 {
		t.Errorf("decided: %v", counts)
	}
}

// 22.4, T1: a lock keeps what one node may have decided: the others, who do not know it, decide the same in a later round, whatever the wrong Leader of that round proposes.
func TestLockKeeps(t *testing.T) {
	// Node 2, wrong, leads round 1. In round 0 all honest ones are locked on node 1's value, and node 1 alone sees the precommits.
	g := gathered(t, size{4, 1}, 0, 2)
	g.start()
	for len(g.mail) > 0 {
		l := g.out(0)
		if l.w.Kind != 3 || l.to == 1 {
			g.take(l.to, l.w)
		}
		if l.w.Kind == 1 {
			g.send(l.to, prevote(2, 0, l.w.Value))
		}
	}
	checkState(t, g.parts[1], locked(0, 3, own(1), 0).decides(own(1)))
	for _, k := range []int{3, 4} {
		checkState(t, g.parts[k], locked(0, 3, own(1), 0))
		g.timeout(k, 3)
		checkTake(t, g.parts[k], propose(2, 1, -1, "y"), prevote(k, 1, ""))
		checkTake(t, g.parts[k], timeout(1, 2), precommit(k, 1, ""))
	}
	// Round 2 is led by node 3, which proposes what is valid.
	checkTake(t, g.parts[4], timeout(1, 3))
	checkTake(t, g.parts[3], timeout(1, 3), propose(3, 2, 0, own(1)))
	for _, k := range []int{3, 4} {
		checkTake(t, g.parts[k], propose(3, 2, 0, own(1)), prevote(k, 2, own(1)))
		takeAll(t, g.parts[k], prevote(3, 2, own(1)), prevote(2, 2, own(1)))
		checkTake(t, g.parts[k], prevote(4, 2, own(1)), precommit(k, 2, own(1)))
		takeAll(t, g.parts[k], precommit(3, 2, own(1)), precommit(4, 2, own(1)), precommit(2, 2, own(1)))
	}
	if value, count := g.decision(); value != own(1) || count != 3 {
		t.Errorf("%d decide %q", count, value)
	}
}
