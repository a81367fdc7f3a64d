package council_test

import (
	"math/rand"
	"testing"

	"sandglass/api"
	"sandglass/council"
)

// pair is a council, and its plain play.
type pair struct {
	t       *testing.T
	x       size
	height  int
	c       *council.Council
	p       *plainCouncil
	decided map[int]string // what each node decided, since it did
}

func newPair(t *testing.T, x size, height int) *pair {
	t.Helper()
	g := &pair{t: t, x: x, height: height, c: whole(t, x, height), p: newPlain(x, height, owns(x.honest())), decided: map[int]string{}}
	checkSame(t, g.c, g.p)
	return g
}

// do does it to both, and holds T1: no two nodes decide otherwise, and a decision stays.
func (g *pair) do(d deed) {
	checkDeed(g.t, g.c, g.p, d)
	for k := 1; k <= g.x.honest(); k++ {
		value, is := g.c.Decided(k)
		if before, was := g.decided[k]; was && (!is || value != before) {
			g.t.Errorf("node %d had decided %q, now %q, %v", k, before, value, is)
		}
		if is {
			g.decided[k] = value
		}
		for other, decision := range g.decided {
			if is && decision != value {
				g.t.Errorf("node %d decides %q, node %d %q", k, value, other, decision)
			}
		}
	}
}

func (g *pair) all() bool { return len(g.decided) == g.x.honest() }

// arrive delivers all that is under way, in order or in any.
func (g *pair) arrive(r *rand.Rand) {
	for count := 0; g.c.Waiting() > 0; count++ {
		i := 0
		if r != nil {
			i = r.Intn(g.c.Waiting())
		}
		g.do(deed{kind: "deliver", i: i})
		if g.t.Failed() || count > 20000 {
			g.t.Fatalf("n %d, t %d, height %d: at delivery %d", g.x.n, g.x.t, g.height, count)
		}
	}
}

// clocks let the nodes in the least round have that timeout, as if they went alike; others wait for them.
func (g *pair) clocks(step int) {
	least := 64
	for k, part := range g.p.parts {
		if _, is := g.decided[k+1]; !is {
			round, _ := part.At()
			least = min(least, round)
		}
	}
	for k, part := range g.p.parts {
		if round, _ := part.At(); round == least {
			g.do(deed{kind: "timeout", i: k + 1, step: step})
		}
	}
}

// finish lets all arrive, and clocks go on where nothing else does, until all have decided, or for so many rounds.
func (g *pair) finish(r *rand.Rand, rounds int) {
	for range rounds {
		for step := 1; step <= 3; step++ {
			g.arrive(r)
			if g.all() {
				return
			}
			g.clocks(step)
		}
	}
}

// 23.2: without losses and forged words, all delivered in order, all decide: the first Leader's value, if that is honest; else, behind timeouts, that of the first one that is.
func TestInOrder(t *testing.T) {
	for _, x := range sizes() {
		for height := 0; height <= 64; height++ {
			g := newPair(t, x, height)
			g.arrive(nil)
			round := 0
			for leader(x.n, height, round) > x.honest() {
				round++
			}
			if g.all() != (round == 0) {
				t.Errorf("%d have decided without a timeout; the first honest Leader is round %d's", len(g.decided), round)
			}
			g.finish(nil, 5)
			checkDecided(t, g.c, own(leader(x.n, height, round)), nodesTo(x.honest())...)
			if t.Failed() {
				t.Fatalf("n %d, t %d, height %d", x.n, x.t, height)
			}
		}
	}
}

// 23.1: how many words are under way behind each delivery in order, counted by who says what behind which vote, for every n and t.
func TestInOrderCounts(t *testing.T) {
	for _, x := range sizes() {
		c, h := whole(t, x, 0), x.honest()
		then := h
		for range h {
			then += h - 1
			checkDeliver(t, c, 0, then)
		}
		for k := range h * h {
			// Node k mod h gets a prevote of node k by h: of Most nodes the last one makes it say a precommit.
			then--
			if k/h+1 == x.most() {
				then += h
			}
			checkDeliver(t, c, 0, then)
		}
		var decided []int
		for k := range h * h {
			then--
			if k/h+1 == x.most() {
				decided = append(decided, k%h+1)
			}
			checkDeliver(t, c, 0, then)
			checkDecided(t, c, own(1), decided...)
		}
		checkWaiting(t, c, 0)
		if t.Failed() {
			t.Fatalf("n %d, t %d", x.n, x.t)
		}
	}
}

// unruly delivers in any order, with timeouts between.
func (g *pair) unruly(r *rand.Rand, deeds, timeouts int) {
	for range deeds {
		if r.Intn(100) < timeouts {
			g.do(deed{kind: "timeout", i: 1 + r.Intn(g.x.honest()), step: []int{1, 1, 1, 2, 2, 3}[r.Intn(6)]})
		}
		g.do(deed{kind: "deliver", i: r.Intn(1000) - 500})
	}
}

// 23.2: in any order, with timeouts, and without losses and forged words: no two decide otherwise, and in the end all decide what one of them would have.
func TestWhole(t *testing.T) {
	t.Parallel()
	r := rand.New(rand.NewSource(23))
	late := 0
	for _, x := range sizes() {
		for play := range 60 {
			g := newPair(t, x, r.Intn(65))
			g.unruly(r, 30*x.n, play%20)
			g.finish(r, 200)
			value, _ := g.c.Decided(1)
			is := false
			for k := 1; k <= x.honest(); k++ {
				is = is || value == own(k)
			}
			if !is || !g.all() {
				t.Errorf("%d decide %q", len(g.decided), value)
			}
			if round, _ := g.p.parts[0].At(); round > 0 {
				late++
			}
			if t.Failed() {
				t.Fatalf("n %d, t %d, play %d", x.n, x.t, play)
			}
		}
	}
	if late < 100 {
		t.Errorf("only %d councils needed more than a round", late)
	}
}

// lie is a forged word about what a node may do next: of its round or near it, mostly from a wrong node.
func (g *pair) lie(r *rand.Rand) deed {
	to := 1 + r.Intn(g.x.honest())
	round, _ := g.p.parts[to-1].At()
	round = max(0, round+[]int{0, 0, 0, 0, 0, 1, 1, -1}[r.Intn(8)])
	values := []string{own(1), own(2), own(leader(g.x.n, g.height, round)), own(leader(g.x.n, g.height, round)), "", "z"}
	w := api.Word{Kind: 2 + r.Intn(2), From: g.x.n, Round: round, Value: values[r.Intn(len(values))]}
	if g.x.t > 0 {
		w.From = g.x.honest() + 1 + r.Intn(g.x.t)
	}
	if lead := leader(g.x.n, g.height, round); lead > g.x.honest() && r.Intn(2) == 0 {
		w = propose(lead, round, r.Intn(round+1)-1, values[len(values)-1-5*(r.Intn(4)/3)])
	}
	return deed{kind: "forge", i: to, w: w}
}

// anyForge is a forged word of any numbers.
func anyForge(r *rand.Rand, x size) deed {
	w := api.Word{Kind: r.Intn(8) - 2, From: r.Intn(x.n+5) - 2, Round: r.Intn(5) - 1, Valid: r.Intn(5) - 2, Value: own(r.Intn(3))}
	return deed{kind: "forge", i: r.Intn(x.n+4) - 1, w: w}
}

// anyDeed is mostly a delivery of one of the oldest words, so that nodes see them in other orders, and yet go on.
func (g *pair) anyDeed(r *rand.Rand) deed {
	switch k := r.Intn(100); {
	case k < 55:
		return deed{kind: "deliver", i: r.Intn(4 * g.x.n)}
	case k < 60:
		return deed{kind: "deliver", i: r.Intn(2000) - 1000}
	case k < 65:
		return deed{kind: "lose", i: r.Intn(2000) - 1000}
	case k < 75:
		return deed{kind: "timeout", i: r.Intn(g.x.n + 2), step: r.Intn(5)}
	case k < 97:
		return g.lie(r)
	}
	return anyForge(r, g.x)
}

// 23.2, T1: words are lost, late and forged, other ones to each node, for every n and t: behind each deed the council tells what its plain play does, no two honest nodes decide otherwise, and decisions stay.
func TestRows(t *testing.T) {
	t.Parallel()
	r := rand.New(rand.NewSource(24))
	decided, forgeries, split := 0, 0, 0
	for _, x := range sizes() {
		for play := range 120 {
			height := r.Intn(65)
			if x.t > 0 && play%2 == 0 {
				// A wrong node leads round 0.
				height = x.honest() + x.n*r.Intn(8)
			}
			g := newPair(t, x, height)
			for range 50 * x.n {
				g.do(g.anyDeed(r))
				if len(g.decided) > 0 && !g.all() {
					split++
				}
				if t.Failed() {
					t.Fatalf("n %d, t %d, height %d, play %d", x.n, x.t, g.height, play)
				}
			}
			if len(g.decided) > 0 {
				decided++
			}
			for _, value := range g.decided {
				if value == "z" {
					forgeries++
					break
				}
			}
		}
	}
	if decided < 500 || forgeries < 20 || split < 2000 {
		t.Errorf("in %d councils a node decided, in %d what was forged; at %d times some had and some had not", decided, forgeries, split)
	}
}

// fill puts words under way that nobody takes, until there is room for so many.
func (g *pair) fill(room int) {
	for k := 0; g.c.Waiting() < 4096-room; k++ {
		to := 1 + k%g.x.honest()
		if !g.c.Forge(to, api.Word{}) || !g.p.Forge(to, api.Word{}) {
			g.t.Fatal("Forge: false")
		}
	}
}

// real is the place of one of the words that are not there to fill the room.
func (g *pair) real(r *rand.Rand) int {
	var places []int
	for place, l := range g.p.mail {
		if l.w != (api.Word{}) {
			places = append(places, place)
		}
	}
	if len(places) == 0 {
		return 0
	}
	return places[r.Intn(len(places))]
}

// 23.1: rows of deeds where there is hardly room, against the plain play: what is said beyond 4096 is lost.
func TestRowsFull(t *testing.T) {
	t.Parallel()
	r := rand.New(rand.NewSource(25))
	lost := 0
	for _, x := range sizes() {
		for range 8 {
			g := newPair(t, x, r.Intn(65))
			for range 80 {
				g.fill(r.Intn(2 * x.honest()))
				d := g.anyDeed(r)
				if d.kind == "deliver" {
					d.i = g.real(r)
				}
				g.do(d)
				if g.c.Waiting() > 4096 || t.Failed() {
					t.Fatalf("n %d, t %d, height %d: %d under way", x.n, x.t, g.height, g.c.Waiting())
				}
			}
			lost += g.p.lost
			// What else is under way is the same to the last.
			for place := g.c.Waiting() - 1; place >= 0; place-- {
				if g.p.mail[place].w == (api.Word{}) {
					g.c.Lose(place)
					g.p.Lose(place)
				}
			}
			g.arrive(nil)
		}
	}
	if lost < 1000 {
		t.Errorf("only %d words were lost", lost)
	}
}

// 23.1: all rows of five deeds out of a few, from the beginning, against the plain play.
func TestAllRows(t *testing.T) {
	t.Parallel()
	for _, x := range []struct {
		x      size
		height int
		deeds  []deed
	}{
		{size{1, 0}, 0, []deed{
			{kind: "deliver", i: 0}, {kind: "deliver", i: -1}, {kind: "lose", i: 1}, {kind: "timeout", i: 1, step: 1},
			{kind: "timeout", i: 1, step: 3}, {kind: "timeout", i: 2, step: 1}, {kind: "forge", i: 1, w: prevote(2, 0, own(1))},
		}},
		{size{2, 0}, 1, []deed{
			{kind: "deliver", i: 0}, {kind: "deliver", i: -1}, {kind: "deliver", i: 2}, {kind: "lose", i: 0}, {kind: "lose", i: -2},
			{kind: "timeout", i: 1, step: 1}, {kind: "timeout", i: 2, step: 2}, {kind: "timeout", i: 1, step: 3},
		}},
		{size{4, 1}, 3, []deed{
			{kind: "deliver", i: 0}, {kind: "deliver", i: -1}, {kind: "lose", i: 1}, {kind: "forge", i: 1, w: propose(4, 0, -1, "z")},
			{kind: "forge", i: 3, w: propose(4, 0, -1, "y")}, {kind: "forge", i: 2, w: prevote(4, 0, "z")}, {kind: "timeout", i: 2, step: 1}, {kind: "timeout", i: 3, step: 3},
		}},
	} {
		rows := 1
		for range 5 {
			rows *= len(x.deeds)
		}
		for row := range rows {
			g := newPair(t, x.x, x.height)
			for rest, k := row, 0; k < 5; k++ {
				g.do(x.deeds[rest%len(x.deeds)])
				rest /= len(x.deeds)
			}
			if t.Failed() {
				t.Fatalf("n %d: row %d", x.x.n, row)
			}
		}
	}
}

// 23.2, T1: the wrong Leader of four says other things to each; whatever it is, no two decide otherwise. All that it can say in round 0 of two values: to each of three nodes, of each kind, nothing, x or y.
func TestWrongLeader(t *testing.T) {
	t.Parallel()
	counts := map[string]int{}
	for number := range 19683 {
		c := quiet(t)
		for rest, k := number, 0; k < 9; k++ {
			if what := rest % 3; what != 0 {
				w := api.Word{Kind: 1 + k%3, From: 4, Value: " xy"[what : what+1]}
				if w.Kind == 1 {
					w.Valid = -1
				}
				c.Forge(1+k/3, w)
			}
			rest /= 3
		}
		for range 3 {
			for step := 1; step <= 3; step++ {
				for c.Waiting() > 0 {
					c.Deliver(0)
				}
				for k := 1; k <= 3; k++ {
					c.Timeout(k, step)
				}
			}
		}
		first := ""
		for k := 1; k <= 3; k++ {
			value, is := c.Decided(k)
			if is && first != "" && value != first {
				t.Fatalf("the Leader says %d: %q and %q are decided", number, first, value)
			}
			if is {
				first = value
			}
		}
		counts[first]++
	}
	if counts["x"] == 0 || counts["y"] == 0 || counts["a"] == 0 {
		t.Errorf("decided: %v", counts)
	}
}
