package cast_test

import (
	"math"
	"slices"
	"strings"
	"testing"

	"sandglass/api"
	"sandglass/cast"
)

// mixed is a text of that length; other seeds have other ones.
func mixed(length int, seed uint64) string {
	b := make([]byte, length)
	x := seed*2 + 1
	for i := range b {
		x = x*6364136223846793005 + 1442695040888963407
		b[i] = byte(x >> 56)
	}
	return string(b)
}

func short(s string) string { return s[:min(len(s), 20)] }

func send(from int, body string) api.Cast { return api.Cast{Kind: 1, From: from, Body: body} }

func echo(from int, body string) api.Cast { return api.Cast{Kind: 2, From: from, Body: body} }

func ready(from int, body string) api.Cast { return api.Cast{Kind: 3, From: from, Body: body} }

// size is how many nodes there are, how many of them may be wrong, and the quorum.
type size struct{ n, t, quorum int }

// sizes are all that have a quorum, written out.
func sizes() []size {
	return []size{
		{1, 0, 1}, {2, 0, 2}, {3, 0, 2}, {4, 0, 3}, {5, 0, 3}, {6, 0, 4}, {7, 0, 4},
		{4, 1, 3}, {5, 1, 4}, {6, 1, 4}, {7, 1, 5},
		{7, 2, 5},
	}
}

// plainQuorum is the one that is written out, or 0.
func plainQuorum(n, t int) int {
	for _, x := range sizes() {
		if x.n == n && x.t == t {
			return x.quorum
		}
	}
	return 0
}

// farInts are ints at and near their edges, and such as go round when they are doubled or trebled.
func farInts() []int {
	l := []int{-1, -2, -3, -7, 8, 9, 10, 64, 255, 256, 257, 1 << 16}
	for _, k := range []int{math.MaxInt, math.MaxInt / 2, math.MaxInt / 3, math.MinInt, math.MinInt / 2, math.MinInt / 3} {
		for d := -8; d <= 8; d++ {
			l = append(l, k+d)
		}
	}
	return l
}

// plainCast is all messages that counted, in order, and whether a ready was said; voices are gone over again at each.
type plainCast struct {
	n, t, from int
	counted    []api.Cast
	ready      bool
}

func (p *plainCast) refused(m api.Cast) bool {
	if m.From <= 0 || m.From > p.n || !slices.Contains([]int{1, 2, 3}, m.Kind) || len(m.Body) >= 4097 {
		return true
	}
	return m.Kind == 1 && m.From != p.from || slices.ContainsFunc(p.counted, func(x api.Cast) bool {
		return x.Kind == m.Kind && x.From == m.From
	})
}

// voices is how many of the messages are of that kind and body.
func voices(l []api.Cast, kind int, body string) int {
	n := 0
	for _, m := range l {
		if m.Kind == kind && m.Body == body {
			n++
		}
	}
	return n
}

func (p *plainCast) take(m api.Cast) []api.Cast {
	if p.refused(m) {
		return nil
	}
	p.counted = append(p.counted, m)
	var said []api.Cast
	if m.Kind == 1 {
		said = append(said, echo(0, m.Body))
	}
	// More than half of n + t is the least whole number of which the double is greater.
	for _, x := range p.counted {
		if !p.ready && (2*voices(p.counted, 2, x.Body) > p.n+p.t || voices(p.counted, 3, x.Body) > p.t) {
			said, p.ready = append(said, ready(0, x.Body)), true
		}
	}
	return said
}

func (p *plainCast) told() (string, bool) {
	for i, m := range p.counted {
		if m.Kind == 3 && voices(p.counted[:i+1], 3, m.Body) > 2*p.t {
			return m.Body, true
		}
	}
	return "", false
}

// checkTake hands m to c, and holds what it says against what it should say.
func checkTake(t *testing.T, c *cast.Cast, m api.Cast, want ...api.Cast) {
	t.Helper()
	got := c.Take(m)
	if !slices.Equal(got, want) {
		t.Errorf("kind %d from %d of %q (%d bytes): %d said; want %d", m.Kind, m.From, short(m.Body), len(m.Body), len(got), len(want))
		for _, s := range got {
			t.Logf("said: kind %d from %d of %q", s.Kind, s.From, short(s.Body))
		}
	}
}

// takeAll hands messages to c, behind which it says nothing.
func takeAll(t *testing.T, c *cast.Cast, l ...api.Cast) {
	t.Helper()
	for _, m := range l {
		checkTake(t, c, m)
	}
}

func checkTold(t *testing.T, c *cast.Cast, want string) {
	t.Helper()
	if body, is := c.Told(); !is || body != want {
		t.Errorf("told %q, %v; want %q", short(body), is, short(want))
	}
}

func checkNotTold(t *testing.T, c *cast.Cast) {
	t.Helper()
	if body, is := c.Told(); is || body != "" {
		t.Errorf("told %q, %v; want nothing", short(body), is)
	}
}

// checkPlain hands m to a part and to its plain count.
func checkPlain(t *testing.T, c *cast.Cast, p *plainCast, m api.Cast) {
	t.Helper()
	checkTake(t, c, m, p.take(m)...)
	if body, is := p.told(); is {
		checkTold(t, c, body)
	} else {
		checkNotTold(t, c)
	}
}

// made is a part that there is.
func made(t *testing.T, n, wrong, from int) *cast.Cast {
	t.Helper()
	c := cast.New(n, wrong, from)
	if c == nil {
		t.Fatalf("n %d, t %d, from %d: no part", n, wrong, from)
	}
	return c
}

// The plain count itself, against what was counted by hand.
func TestPlainCount(t *testing.T) {
	p := &plainCast{n: 4, t: 1, from: 2}
	for i, x := range []struct {
		m    api.Cast
		said []api.Cast
		told bool
	}{
		{send(1, "x"), nil, false},
		{echo(0, "x"), nil, false},
		{echo(5, "x"), nil, false},
		{api.Cast{Kind: 4, From: 1, Body: "x"}, nil, false},
		{echo(1, strings.Repeat("x", 4097)), nil, false},
		{echo(1, "x"), nil, false},
		{echo(1, "y"), nil, false},
		{echo(2, "x"), nil, false},
		{send(2, "x"), []api.Cast{echo(0, "x")}, false},
		{echo(3, "x"), []api.Cast{ready(0, "x")}, false},
		{echo(4, "x"), nil, false},
		{ready(1, "x"), nil, false},
		{ready(2, "y"), nil, false},
		{ready(3, "x"), nil, false},
		{ready(4, "x"), nil, true},
	} {
		said := p.take(x.m)
		body, is := p.told()
		if !slices.Equal(said, x.said) || is != x.told || is != (body == "x") {
			t.Errorf("%d: %v, told %q, %v", i, said, body, is)
		}
	}
	two := &plainCast{n: 4, t: 1, from: 2}
	if two.take(ready(1, "z")) != nil || !slices.Equal(two.take(ready(3, "z")), []api.Cast{ready(0, "z")}) {
		t.Error("the second ready")
	}
}
