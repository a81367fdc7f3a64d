package council_test

import (
	"fmt"
	"math"
	"math/big"
	"slices"
	"strconv"
	"testing"

	"sandglass/agree"
	"sandglass/api"
	"sandglass/council"
)

// mixed is a text of that length; other seeds have other ones.
func mixed(length int, seed uint64) string {
	b := make([]byte, length)
	x := seed*2 + 1
	for i := range b {
		x = x*6364136223846793005 + 1442695040888963407
		b[i] = byte(x >> 56)
	}
	return string(b)
}

func short(s string) string { return s[:min(len(s), 20)] }

// shown is a word as a message tells it.
func shown(w api.Word) string {
	return fmt.Sprintf("kind %d from %d, round %d, valid %d, %q (%d bytes)", w.Kind, w.From, w.Round, w.Valid, short(w.Value), len(w.Value))
}

func propose(from, round, valid int, value string) api.Word {
	return api.Word{Kind: 1, From: from, Round: round, Valid: valid, Value: value}
}

func prevote(from, round int, value string) api.Word {
	return api.Word{Kind: 2, From: from, Round: round, Value: value}
}

func precommit(from, round int, value string) api.Word {
	return api.Word{Kind: 3, From: from, Round: round, Value: value}
}

// size is how many nodes there are, and how many of them may be wrong.
type size struct{ n, t int }

func (x size) honest() int { return x.n - x.t }

// most is how many votes Most needs: more than half of n and t.
func (x size) most() int {
	count := 0
	for 2*count <= x.n+x.t {
		count++
	}
	return count
}

// sizes are all that have a council, written out; those from the eighth on have wrong nodes.
func sizes() []size {
	return []size{{1, 0}, {2, 0}, {3, 0}, {4, 0}, {5, 0}, {6, 0}, {7, 0}, {4, 1}, {5, 1}, {6, 1}, {7, 1}, {7, 2}}
}

// farInts are ints at and near their edges, and such as go round when they are added up.
func farInts() []int {
	l := []int{-64, -65, 66, 127, 128, 255, 256, 257, 4095, 4096, 4097, 1 << 16, 1 << 32, 1<<32 + 1}
	for _, k := range []int{math.MaxInt, math.MaxInt / 2, math.MaxInt / 3, math.MinInt, math.MinInt / 2, math.MinInt / 3} {
		for d := -4; d <= 4; d++ {
			l = append(l, k+d)
		}
	}
	return l
}

// leader goes from node to node, one for each height and each round.
func leader(n, height, round int) int {
	at := 1
	for range height + round {
		at++
		if at > n {
			at = 1
		}
	}
	return at
}

// own is what node k would have.
func own(k int) string { return "of " + strconv.Itoa(k) }

// owns are what nodes 1 to count would have.
func owns(count int) []string {
	var l []string
	for k := 1; k <= count; k++ {
		l = append(l, own(k))
	}
	return l
}

// made is a council that there is.
func made(t *testing.T, n, wrong, height int, values ...string) *council.Council {
	t.Helper()
	c := council.New(n, wrong, height, values)
	if c == nil {
		t.Fatalf("n %d, t %d, height %d, %d values: no council", n, wrong, height, len(values))
	}
	return c
}

// whole is a council of that size, each node with its own value.
func whole(t *testing.T, x size, height int) *council.Council {
	t.Helper()
	return made(t, x.n, x.t, height, owns(x.honest())...)
}

// quiet is a council of four of whom one may be wrong, which leads round 0: nothing is under way. The Leaders of rounds 1, 2, 3, 4 are 1, 2, 3, 4.
func quiet(t *testing.T) *council.Council {
	t.Helper()
	c := made(t, 4, 1, 3, "a", "b", "c")
	checkWaiting(t, c, 0)
	return c
}

func checkWaiting(t *testing.T, c *council.Council, want int) {
	t.Helper()
	if got := c.Waiting(); got != want {
		t.Errorf("%d under way; want %d", got, want)
	}
}

// checkDecided holds that just these nodes have decided, and all of them that value; no others, be they nodes or not.
func checkDecided(t *testing.T, c *council.Council, value string, nodes ...int) {
	t.Helper()
	for k := -2; k <= 10; k++ {
		want, is := "", slices.Contains(nodes, k)
		if is {
			want = value
		}
		if got, has := c.Decided(k); got != want || has != is {
			t.Errorf("node %d decided %q, %v; want %q, %v", k, short(got), has, short(want), is)
		}
	}
}

// checkDeliver delivers the one at i, behind which so many are under way.
func checkDeliver(t *testing.T, c *council.Council, i, then int) {
	t.Helper()
	if !c.Deliver(i) {
		t.Errorf("Deliver(%d): false", i)
	}
	checkWaiting(t, c, then)
}

func checkLose(t *testing.T, c *council.Council, i, then int) {
	t.Helper()
	if !c.Lose(i) {
		t.Errorf("Lose(%d): false", i)
	}
	checkWaiting(t, c, then)
}

func checkForge(t *testing.T, c *council.Council, to int, w api.Word, want bool) {
	t.Helper()
	before := c.Waiting()
	if got := c.Forge(to, w); got != want {
		t.Errorf("Forge to %d of kind %d from %d: %v", to, w.Kind, w.From, got)
	}
	if want {
		before++
	}
	checkWaiting(t, c, before)
}

// checkTimeout lets a node have one, behind which so many more are under way.
func checkTimeout(t *testing.T, c *council.Council, node, step, more int) {
	t.Helper()
	before := c.Waiting()
	if !c.Timeout(node, step) {
		t.Errorf("Timeout(%d, %d): false", node, step)
	}
	if got := c.Waiting() - before; got != more {
		t.Errorf("Timeout(%d, %d): %d more under way; want %d", node, step, got, more)
	}
}

// loseAll lets nothing be under way any more.
func loseAll(t *testing.T, c *council.Council) {
	t.Helper()
	for left := c.Waiting(); left > 0; left-- {
		checkLose(t, c, 0, left-1)
	}
}

// deliverAll delivers in order until nothing is under way.
func deliverAll(t *testing.T, c *council.Council) {
	t.Helper()
	for count := 0; c.Waiting() > 0; count++ {
		if !c.Deliver(0) || count > 20000 {
			t.Fatalf("%d under way behind %d", c.Waiting(), count)
		}
	}
}

// only lets all go out but the one at k.
func only(c *council.Council, k int) {
	for range k {
		c.Lose(0)
	}
	for c.Waiting() > 1 {
		c.Lose(1)
	}
}

// letter is a word that is under way to a node.
type letter struct {
	to int
	w  api.Word
}

// plainCouncil keeps all parts, those that have decided too, and all letters in the order in which they came.
type plainCouncil struct {
	parts []*agree.Agree
	mail  []letter
	lost  int // what was said and had no room
}

func newPlain(x size, height int, values []string) *plainCouncil {
	p := &plainCouncil{}
	for k := 1; k <= x.honest(); k++ {
		p.parts = append(p.parts, agree.New(x.n, x.t, k, height, values[k-1]))
	}
	for _, part := range p.parts {
		p.say(part.Start())
	}
	return p
}

func (p *plainCouncil) honest(k int) bool { return k > 0 && k <= len(p.parts) }

func (p *plainCouncil) say(l []api.Word) {
	for _, w := range l {
		for k := range p.parts {
			if len(p.mail) == 4096 {
				p.lost++
				continue
			}
			p.mail = append(p.mail, letter{k + 1, w})
		}
	}
}

// place is where the one at i lies.
func (p *plainCouncil) place(i int) int {
	return int(new(big.Int).Mod(big.NewInt(int64(i)), big.NewInt(int64(len(p.mail)))).Int64())
}

func (p *plainCouncil) Lose(i int) bool {
	if len(p.mail) == 0 {
		return false
	}
	place := p.place(i)
	p.mail = append(p.mail[:place], p.mail[place+1:]...)
	return true
}

func (p *plainCouncil) Deliver(i int) bool {
	if len(p.mail) == 0 {
		return false
	}
	l := p.mail[p.place(i)]
	p.Lose(i)
	p.say(p.parts[l.to-1].Take(l.w))
	return true
}

func (p *plainCouncil) Forge(to int, w api.Word) bool {
	if p.honest(w.From) || w.Kind == 4 || !p.honest(to) || len(p.mail) == 4096 {
		return false
	}
	p.mail = append(p.mail, letter{to, w})
	return true
}

func (p *plainCouncil) Timeout(node, step int) bool {
	if !p.honest(node) {
		return false
	}
	round, _ := p.parts[node-1].At()
	p.say(p.parts[node-1].Take(api.Word{Kind: 4, Round: round, Valid: step}))
	return true
}

func (p *plainCouncil) Decided(node int) (string, bool) {
	if !p.honest(node) {
		return "", false
	}
	return p.parts[node-1].Decided()
}

func (p *plainCouncil) Waiting() int { return len(p.mail) }

// deed is something done to a council.
type deed struct {
	kind string
	i    int // which one goes out, who gets a forged word, or whose timeout it is
	step int
	w    api.Word
}

// doer is a council, or its plain play.
type doer interface {
	Deliver(i int) bool
	Lose(i int) bool
	Forge(to int, w api.Word) bool
	Timeout(node, step int) bool
	Decided(node int) (string, bool)
	Waiting() int
}

func (d deed) do(c doer) bool {
	switch d.kind {
	case "deliver":
		return c.Deliver(d.i)
	case "lose":
		return c.Lose(d.i)
	case "forge":
		return c.Forge(d.i, d.w)
	}
	return c.Timeout(d.i, d.step)
}

// checkSame holds two that should tell the same.
func checkSame(t *testing.T, c, p doer) {
	if c.Waiting() != p.Waiting() {
		t.Helper()
		t.Errorf("%d under way; want %d", c.Waiting(), p.Waiting())
	}
	for k := -1; k <= 8; k++ {
		got, is := c.Decided(k)
		if want, has := p.Decided(k); got != want || is != has {
			t.Helper()
			t.Errorf("node %d decided %q, %v; want %q, %v", k, short(got), is, short(want), has)
		}
	}
}

// checkDeed does it to both.
func checkDeed(t *testing.T, c, p doer, d deed) {
	got := d.do(c)
	if want := d.do(p); got != want {
		t.Helper()
		t.Errorf("%s %d: %v; want %v", d.kind, d.i, got, want)
	}
	checkSame(t, c, p)
}

// The plain play itself, against what was worked out by hand.
func TestPlainPlay(t *testing.T) {
	p := newPlain(size{4, 1}, 0, []string{"a", "b", "c"})
	first := []letter{{1, propose(1, 0, -1, "a")}, {2, propose(1, 0, -1, "a")}, {3, propose(1, 0, -1, "a")}}
	if !slices.Equal(p.mail, first) {
		t.Errorf("first: %v", p.mail)
	}
	if !p.Deliver(-2) || !slices.Equal(p.mail, []letter{first[0], first[2], {1, prevote(2, 0, "a")}, {2, prevote(2, 0, "a")}, {3, prevote(2, 0, "a")}}) {
		t.Errorf("Deliver: %v", p.mail)
	}
	if !p.Lose(7) || !p.Lose(math.MaxInt) || !slices.Equal(p.mail, []letter{first[0], first[2], {2, prevote(2, 0, "a")}}) {
		t.Errorf("Lose: %v", p.mail)
	}
	w := prevote(4, 0, "x")
	if !p.Forge(3, w) || p.Forge(4, w) || p.Forge(0, w) || p.Forge(1, prevote(3, 0, "x")) || p.Forge(1, api.Word{Kind: 4}) || p.Waiting() != 4 || p.mail[3] != (letter{3, w}) {
		t.Errorf("Forge: %v", p.mail)
	}
	if !p.Timeout(3, 1) || p.Timeout(4, 1) || p.Waiting() != 7 || p.mail[6] != (letter{3, prevote(3, 0, "")}) {
		t.Errorf("Timeout: %v", p.mail)
	}
	for p.Waiting() > 0 {
		p.Lose(0)
	}
	if p.Lose(0) || p.Deliver(0) {
		t.Error("none is under way")
	}
	for p.Forge(1, w) {
	}
	if !p.Timeout(1, 1) || p.Waiting() != 4096 || p.lost != 3 {
		t.Errorf("%d under way, %d lost", p.Waiting(), p.lost)
	}
}
