package cast_test

import (
	"math/rand"
	"testing"

	"sandglass/api"
	"sandglass/cast"
)

// 20.1: the example.
func TestExample(t *testing.T) {
	if q := cast.Quorum(4, 1); q != 3 {
		t.Errorf("n 4, t 1: Quorum %d", q)
	}
}

// messages are all of n nodes, of each kind, with these bodies; and some that are to be refused.
func messages(n int, bodies ...string) []api.Cast {
	var l []api.Cast
	for _, body := range bodies {
		for from := 1; from <= n; from++ {
			l = append(l, send(from, body), echo(from, body), ready(from, body))
		}
	}
	return append(l, echo(0, bodies[0]), ready(n+1, bodies[0]), api.Cast{Kind: 4, From: 1, Body: bodies[0]})
}

// 20.1: all rows of messages among one node, and among two, against the plain count.
func TestAllRows(t *testing.T) {
	for _, x := range []struct{ n, length int }{{1, 5}, {2, 4}} {
		all := messages(x.n, "x", "")
		rows := 1
		for range x.length {
			rows *= len(all)
		}
		for row := range rows {
			c, p := made(t, x.n, 0, 1), &plainCast{n: x.n, from: 1}
			for rest, k := row, 0; k < x.length; k++ {
				checkPlain(t, c, p, all[rest%len(all)])
				rest /= len(all)
			}
			if t.Failed() {
				t.Fatalf("n %d, row %d", x.n, row)
			}
		}
	}
}

// someBodies are a few, one of them too long, so that some of them get enough voices.
var someBodies = []string{"x", "x", "x", "y", "y", "", mixed(4096, 1), mixed(4097, 2)}

// anyMessage is mostly one that may count.
func anyMessage(r *rand.Rand, n, from int) api.Cast {
	m := api.Cast{Kind: 1 + r.Intn(3), From: 1 + r.Intn(n), Body: someBodies[r.Intn(len(someBodies))]}
	switch r.Intn(12) {
	case 0:
		m.From = r.Intn(n+4) - 1
	case 1:
		m.Kind = r.Intn(7) - 1
	case 2:
		m.Kind, m.From = 1, from
	}
	return m
}

// 20.1: rows of messages of all kinds and bodies, of all n and t, against the plain count.
func TestRows(t *testing.T) {
	r := rand.New(rand.NewSource(20))
	told := 0
	for _, x := range sizes() {
		for range 300 {
			from := 1 + r.Intn(x.n)
			c, p := made(t, x.n, x.t, from), &plainCast{n: x.n, t: x.t, from: from}
			for range 60 {
				checkPlain(t, c, p, anyMessage(r, x.n, from))
			}
			if t.Failed() {
				t.Fatalf("n %d, t %d, from %d", x.n, x.t, from)
			}
			if _, is := p.told(); is {
				told++
			}
		}
	}
	if told < 500 {
		t.Errorf("only %d of the rows told something", told)
	}
}
