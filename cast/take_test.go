package cast_test

import (
	"math"
	"strings"
	"testing"

	"sandglass/api"
)

// 20.1: behind a CastSend of the sender its Body is echoed, to all (From 0), whoever of the nodes the sender is.
func TestSend(t *testing.T) {
	for _, x := range sizes() {
		for from := 1; from <= x.n; from++ {
			for _, body := range []string{"", "x", "\x00", "é\n", mixed(1000, 1), mixed(4095, 2), mixed(4096, 3)} {
				c := made(t, x.n, x.t, from)
				checkTake(t, c, send(from, body), echo(0, body))
				checkNotTold(t, c)
			}
		}
	}
}

// 20.1: a CastSend of another node than from is nothing, and does not count; nor does it bar the sender's own.
func TestSendOfAnother(t *testing.T) {
	for _, x := range sizes() {
		for from := 1; from <= x.n; from++ {
			c := made(t, x.n, x.t, from)
			for other := 1; other <= x.n; other++ {
				if other != from {
					takeAll(t, c, send(other, "x"), send(other, "x"), send(other, "y"))
				}
			}
			checkTake(t, c, send(from, "x"), echo(0, "x"))
			for other := 1; other <= x.n; other++ {
				takeAll(t, c, send(other, "x"), send(other, "z"))
			}
		}
	}
}

// 20.1: a second CastSend is nothing, with the same Body and with another one, also behind other messages.
func TestSecondSend(t *testing.T) {
	c := made(t, 4, 1, 2)
	checkTake(t, c, send(2, "x"), echo(0, "x"))
	takeAll(t, c, send(2, "x"), send(2, "y"), send(2, ""))
	takeAll(t, c, echo(2, "y"), ready(2, "y"), send(2, "x"), send(2, "y"))
}

// 20.1: who is no node is not heard, of each kind, and bars nobody.
func TestNoNode(t *testing.T) {
	for _, x := range sizes() {
		c := made(t, x.n, x.t, 1)
		strangers := append(farInts(), 0, -1, x.n+1, x.n+2, math.MinInt, math.MaxInt)
		for _, from := range strangers {
			takeAll(t, c, send(from, "x"), echo(from, "x"), ready(from, "x"))
		}
		checkNotTold(t, c)
		checkTake(t, c, send(1, "x"), echo(0, "x"))
		for k := 1; k < x.quorum; k++ {
			takeAll(t, c, echo(k, "x"))
		}
		for _, from := range strangers {
			takeAll(t, c, send(from, "x"), echo(from, "x"), ready(from, "x"))
		}
		checkTake(t, c, echo(x.quorum, "x"), ready(0, "x"))
		checkNotTold(t, c)
	}
}

// 20.1: nodes 1 and n are heard, of each kind.
func TestFirstAndLast(t *testing.T) {
	c := made(t, 2, 0, 2)
	checkTake(t, c, send(2, "x"), echo(0, "x"))
	takeAll(t, c, echo(1, "x"))
	checkTake(t, c, echo(2, "x"), ready(0, "x"))
	d := made(t, 4, 1, 1)
	checkTake(t, d, send(1, "x"), echo(0, "x"))
	takeAll(t, d, ready(1, "x"))
	checkTake(t, d, ready(4, "x"), ready(0, "x"))
	e := made(t, 7, 2, 7)
	checkTake(t, e, send(7, "x"), echo(0, "x"))
	takeAll(t, e, ready(7, "x"), ready(4, "x"))
	checkTake(t, e, ready(1, "x"), ready(0, "x"))
}

// 20.1: a kind that is none is nothing, and does not count; behind it the node's messages of all kinds do.
func TestNoKind(t *testing.T) {
	c := made(t, 4, 1, 1)
	noKinds := append(farInts(), 0, 4, 5, -1, math.MinInt, math.MaxInt)
	for _, kind := range noKinds {
		for from := 0; from <= 5; from++ {
			takeAll(t, c, api.Cast{Kind: kind, From: from, Body: "x"}, api.Cast{Kind: kind, From: from})
		}
	}
	checkNotTold(t, c)
	checkTake(t, c, send(1, "x"), echo(0, "x"))
	takeAll(t, c, echo(1, "x"), echo(2, "x"))
	for _, kind := range noKinds {
		takeAll(t, c, api.Cast{Kind: kind, From: 3, Body: "x"}, api.Cast{Kind: kind, From: 4, Body: "x"})
	}
	checkTake(t, c, echo(3, "x"), ready(0, "x"))
	takeAll(t, c, ready(1, "x"), ready(2, "x"), api.Cast{Kind: 4, From: 3, Body: "x"})
	checkNotTold(t, c)
	takeAll(t, c, ready(3, "x"))
	checkTold(t, c, "x")
}

// 20.1: a Body of more than MaxBody bytes is nothing, and does not count; behind it the node's right message does.
func TestLongBody(t *testing.T) {
	for _, n := range []int{4097, 4098, 8192, 1 << 16, 1 << 20} {
		long, most := strings.Repeat("x", n), strings.Repeat("x", 4096)
		c := made(t, 4, 1, 1)
		takeAll(t, c, send(1, long))
		for k := 1; k <= 4; k++ {
			takeAll(t, c, echo(k, long), ready(k, long))
		}
		checkNotTold(t, c)
		checkTake(t, c, send(1, most), echo(0, most))
		takeAll(t, c, echo(1, most), echo(2, most), echo(3, long))
		checkTake(t, c, echo(3, most), ready(0, most))
		takeAll(t, c, ready(1, most), ready(2, most), ready(3, long))
		checkNotTold(t, c)
		takeAll(t, c, ready(3, most))
		checkTold(t, c, most)
	}
}

// 20.1: a second echo, or ready, of a node is nothing and does not count, with the same Body and with another one.
func TestSecondVoice(t *testing.T) {
	for _, second := range []string{"x", "y", ""} {
		c := made(t, 4, 1, 1)
		takeAll(t, c, echo(1, "x"), echo(1, second), echo(2, "x"), echo(2, second), echo(1, second), echo(1, "x"))
		// Neither x nor the other one has more than two.
		takeAll(t, c, echo(3, "z"))
		checkTake(t, c, echo(4, "x"), ready(0, "x"))

		d := made(t, 7, 2, 1)
		takeAll(t, d, ready(1, "x"), ready(1, second), ready(2, "x"), ready(2, second), ready(1, second), ready(1, "x"))
		checkTake(t, d, ready(3, "x"), ready(0, "x"))
		takeAll(t, d, ready(3, "x"), ready(1, second), ready(2, "x"), ready(4, "x"), ready(4, second), ready(4, "x"))
		checkNotTold(t, d)
		takeAll(t, d, ready(5, "x"))
		checkTold(t, d, "x")
	}
	// One node's many voices of other bodies never help these.
	c := made(t, 4, 1, 1)
	takeAll(t, c, echo(1, "x"), echo(2, "y"), echo(3, "y"), echo(1, "y"), echo(1, "y"))
	takeAll(t, c, ready(1, "x"), ready(2, "y"), ready(1, "y"), ready(2, "x"))
	checkNotTold(t, c)
}

// 20.1: one node's messages of the other kinds count, in each order, and kinds are not added up.
func TestKindsApart(t *testing.T) {
	for _, order := range [][3]int{{1, 2, 3}, {1, 3, 2}, {2, 1, 3}, {2, 3, 1}, {3, 1, 2}, {3, 2, 1}} {
		c := made(t, 7, 2, 1)
		for _, kind := range order {
			m := api.Cast{Kind: kind, From: 1, Body: "x"}
			if kind == 1 {
				checkTake(t, c, m, echo(0, "x"))
			} else {
				takeAll(t, c, m)
			}
		}
		takeAll(t, c, ready(2, "x"), echo(2, "x"), echo(3, "x"), echo(4, "x"))
		// Four echoes and two readies: one of either is still wanting.
		checkNotTold(t, c)
		checkTake(t, c, ready(3, "x"), ready(0, "x"))
		takeAll(t, c, echo(5, "x"), echo(6, "x"), echo(7, "x"), ready(4, "x"))
		checkNotTold(t, c)
		takeAll(t, c, ready(7, "x"))
		checkTold(t, c, "x")
	}
}

// 20.1: what is refused is as if it had not come: a message that is right counts behind it.
func TestRefusedThenRight(t *testing.T) {
	c := made(t, 4, 1, 3)
	takeAll(t, c, send(1, "x"), send(0, "x"), send(3, mixed(4097, 1)), api.Cast{Kind: 0, From: 3, Body: "x"})
	checkTake(t, c, send(3, "x"), echo(0, "x"))
	takeAll(t, c, echo(1, mixed(4097, 1)), echo(1, "x"), echo(2, "x"), echo(2, "y"), echo(5, "x"), echo(-4, "x"))
	checkTake(t, c, echo(4, "x"), ready(0, "x"))
	takeAll(t, c, ready(4, mixed(4097, 1)), ready(4, "x"), ready(1, "x"), ready(0, "x"), ready(5, "x"))
	checkNotTold(t, c)
	takeAll(t, c, ready(3, "x"))
	checkTold(t, c, "x")
}
