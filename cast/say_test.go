package cast_test

import (
	"strconv"
	"strings"
	"testing"
)

// 20.1: CastReady is said behind the Quorum-th echo of a Body and not one earlier, once, with and without the CastSend.
func TestReadyByEchoes(t *testing.T) {
	for _, x := range sizes() {
		for _, sent := range []bool{false, true} {
			for _, body := range []string{"x", "", strings.Repeat("\xff", 4096)} {
				c := made(t, x.n, x.t, 1)
				if sent {
					checkTake(t, c, send(1, body), echo(0, body))
				}
				// The last nodes first, so that who they are does not matter.
				for k := 1; k <= x.n; k++ {
					if k == x.quorum {
						checkTake(t, c, echo(x.n+1-k, body), ready(0, body))
					} else {
						takeAll(t, c, echo(x.n+1-k, body))
					}
				}
				checkNotTold(t, c)
			}
		}
	}
}

// 20.1: CastReady is said behind the t + 1-th ready of a Body and not one earlier, once; Told is true behind 2 t + 1.
func TestReadyByReadies(t *testing.T) {
	for _, x := range sizes() {
		for _, body := range []string{"x", "", strings.Repeat("\xff", 4096)} {
			c := made(t, x.n, x.t, 1)
			checkNotTold(t, c)
			for k := 1; k <= x.n; k++ {
				if k == x.t+1 {
					checkTake(t, c, ready(x.n+1-k, body), ready(0, body))
				} else {
					takeAll(t, c, ready(x.n+1-k, body))
				}
				if k < 2*x.t+1 {
					checkNotTold(t, c)
				} else {
					checkTold(t, c, body)
				}
			}
		}
	}
}

// 20.1: behind a CastReady none is said any more: not of that Body, by readies and echoes, nor of another one that gets enough.
func TestReadyOnce(t *testing.T) {
	c := made(t, 4, 1, 1)
	takeAll(t, c, echo(1, "x"), echo(2, "x"))
	checkTake(t, c, echo(3, "x"), ready(0, "x"))
	takeAll(t, c, echo(4, "x"), ready(1, "y"), ready(2, "y"), ready(3, "x"), ready(4, "x"))
	checkTake(t, c, send(1, "y"), echo(0, "y"))
	checkNotTold(t, c)

	// By readies first: then a quorum of echoes, of that Body and of another one.
	for _, body := range []string{"x", "y"} {
		d := made(t, 7, 2, 1)
		takeAll(t, d, ready(1, "x"), ready(2, "x"))
		checkTake(t, d, ready(3, "x"), ready(0, "x"))
		for k := 1; k <= 7; k++ {
			takeAll(t, d, echo(k, body))
		}
		takeAll(t, d, ready(4, "y"), ready(5, "y"), ready(6, "y"), ready(7, "y"))
		checkNotTold(t, d)
	}
}

// 20.1: a CastSend behind voices of its Body and of others is echoed all the same, and says no CastReady.
func TestLateSend(t *testing.T) {
	c := made(t, 4, 1, 4)
	takeAll(t, c, echo(1, "x"), echo(2, "x"), echo(3, "y"), ready(1, "x"), ready(2, "y"))
	checkTake(t, c, send(4, "x"), echo(0, "x"))
	checkTake(t, c, echo(4, "x"), ready(0, "x"))

	// Behind a CastReady of its Body, of another Body, and behind what is told.
	for _, body := range []string{"x", "y"} {
		d := made(t, 4, 1, 4)
		takeAll(t, d, echo(1, "x"), echo(2, "x"))
		checkTake(t, d, echo(3, "x"), ready(0, "x"))
		checkTake(t, d, send(4, body), echo(0, body))

		e := made(t, 4, 1, 4)
		takeAll(t, e, ready(1, "x"))
		checkTake(t, e, ready(2, "x"), ready(0, "x"))
		takeAll(t, e, ready(3, "x"))
		checkTold(t, e, "x")
		checkTake(t, e, send(4, body), echo(0, body))
		takeAll(t, e, send(4, body), send(4, "z"), echo(1, body), echo(2, body), echo(3, body), echo(4, body), ready(4, body))
		checkTold(t, e, "x")
	}
}

// 20.1: a CastSend is no echo and no ready: a quorum is of echoes alone.
func TestSendIsNoVoice(t *testing.T) {
	for _, x := range sizes() {
		c := made(t, x.n, x.t, x.n)
		checkTake(t, c, send(x.n, "x"), echo(0, "x"))
		for k := 1; k < x.quorum; k++ {
			takeAll(t, c, echo(k, "x"))
		}
		for k := 1; k <= x.t; k++ {
			takeAll(t, c, ready(k, "x"))
		}
		checkNotTold(t, c)
	}
}

// 20.1: echoes and readies of several bodies mixed, where none has enough.
func TestNoneHasEnough(t *testing.T) {
	c := made(t, 7, 2, 1)
	for k, body := range []string{"x", "y", "x", "y", "x", "y", "x"} {
		takeAll(t, c, echo(k+1, body))
	}
	for k, body := range []string{"x", "y", "", "x", "y", ""} {
		takeAll(t, c, ready(k+1, body))
	}
	takeAll(t, c, ready(7, "z"))
	checkTake(t, c, send(1, "y"), echo(0, "y"))
	checkNotTold(t, c)
}

// 20.1: bodies are told apart by all their bytes, also such as begin alike, or have the same length, or zeros at their end.
func TestBodiesApart(t *testing.T) {
	long := mixed(4096, 1)
	for _, l := range [][]string{
		{"x", "xx", "X", " x"},
		{"", "\x00", "\x00\x00", "\x00\x00\x00"},
		{long, long[:4095], long[:4095] + "\x00", "\x00" + long[1:]},
		{"é", "e\u0301", "\xe9", "\xff"},
	} {
		c := made(t, 7, 2, 1)
		for k, body := range l {
			takeAll(t, c, echo(k+1, body), ready(k+1, body))
		}
		takeAll(t, c, echo(5, l[0]), echo(6, l[0]), echo(7, l[0]), ready(5, l[0]))
		checkTake(t, c, ready(6, l[0]), ready(0, l[0]))
		takeAll(t, c, ready(7, l[0]))
		checkNotTold(t, c)
	}
}

// 20.1: a Body that gets enough says so, though another one had more at first; of a second one that gets enough later nothing is said.
func TestSecondBody(t *testing.T) {
	c := made(t, 4, 0, 1)
	takeAll(t, c, echo(1, "x"), echo(2, "y"), echo(3, "y"))
	checkTake(t, c, echo(4, "y"), ready(0, "y"))

	// Three echoes of x, then three of y: but the second ready of y comes first.
	d := made(t, 6, 1, 1)
	takeAll(t, d, echo(1, "x"), echo(2, "x"), echo(3, "x"), echo(4, "y"), echo(5, "y"), ready(1, "y"))
	checkTake(t, d, ready(2, "y"), ready(0, "y"))
	takeAll(t, d, echo(6, "x"), ready(3, "x"), ready(4, "x"), ready(5, "x"))
	// x has a quorum of echoes and more readies than t, but y was said.
	checkTold(t, d, "x")
	takeAll(t, d, ready(6, "y"))
	checkTold(t, d, "x")
}

// 20.1: what is said is of the Body that has enough, not of the one that was sent.
func TestReadyOfAnotherBody(t *testing.T) {
	c := made(t, 4, 1, 1)
	checkTake(t, c, send(1, "x"), echo(0, "x"))
	takeAll(t, c, ready(2, "y"), echo(1, "y"))
	checkTake(t, c, ready(3, "y"), ready(0, "y"))
	takeAll(t, c, ready(4, "y"))
	checkTold(t, c, "y")
}

// 20.1: with t 0 one ready is enough for both, and with n 1 one echo is, too.
func TestNoneWrong(t *testing.T) {
	for n := 1; n <= 7; n++ {
		c := made(t, n, 0, 1)
		checkTake(t, c, ready(n, "x"), ready(0, "x"))
		checkTold(t, c, "x")
		for k := 1; k < n; k++ {
			takeAll(t, c, ready(k, "y"), echo(k, "y"))
		}
		checkTold(t, c, "x")
	}
	c := made(t, 1, 0, 1)
	checkTake(t, c, send(1, "x"), echo(0, "x"))
	checkTake(t, c, echo(1, "x"), ready(0, "x"))
	checkNotTold(t, c)
	takeAll(t, c, ready(1, "x"))
	checkTold(t, c, "x")
	// The only node says otherwise each time: the kinds are counted apart.
	d := made(t, 1, 0, 1)
	checkTake(t, d, echo(1, "x"), ready(0, "x"))
	takeAll(t, d, ready(1, "y"))
	checkTold(t, d, "y")
	checkTake(t, d, send(1, "z"), echo(0, "z"))
	takeAll(t, d, send(1, "x"), echo(1, "y"), ready(1, "x"))
	checkTold(t, d, "y")
}

// 20.1: Told is nothing ahead of any ready and behind 2 t readies of a Body, whatever echoes there are; it is the Body behind 2 t + 1, and stays.
func TestTold(t *testing.T) {
	for _, x := range sizes() {
		c := made(t, x.n, x.t, 1)
		for k := 1; k <= x.n; k++ {
			c.Take(echo(k, "y"))
		}
		c.Take(send(1, "y"))
		checkNotTold(t, c)
		for k := 1; k <= 2*x.t; k++ {
			takeAll(t, c, ready(k, "x"))
			checkNotTold(t, c)
		}
		takeAll(t, c, ready(2*x.t+1, "x"))
		for k := 2*x.t + 2; k <= x.n; k++ {
			checkTold(t, c, "x")
			takeAll(t, c, ready(k, "y"))
		}
		checkTold(t, c, "x")
		checkTold(t, c, "x")
	}
}

// 20.1: of two bodies that get 2 t + 1 readies the first that had them is told, not the one of which the first ready came.
func TestToldFirst(t *testing.T) {
	c := made(t, 7, 1, 1)
	takeAll(t, c, ready(1, "x"), ready(2, "y"))
	checkTake(t, c, ready(3, "x"), ready(0, "x"))
	takeAll(t, c, ready(4, "y"))
	checkNotTold(t, c)
	takeAll(t, c, ready(5, "y"))
	checkTold(t, c, "y")
	takeAll(t, c, ready(6, "x"))
	checkTold(t, c, "y")
	takeAll(t, c, ready(7, "x"), echo(1, "x"), echo(2, "x"), echo(3, "x"), echo(4, "x"), echo(5, "x"))
	checkTold(t, c, "y")
}

// 20.1: the Body of no byte is told, with true, also when another one gets as many.
func TestToldEmpty(t *testing.T) {
	c := made(t, 6, 1, 1)
	takeAll(t, c, ready(1, ""))
	checkTake(t, c, ready(2, ""), ready(0, ""))
	checkNotTold(t, c)
	takeAll(t, c, ready(3, ""))
	checkTold(t, c, "")
	takeAll(t, c, ready(4, "x"), ready(5, "x"), ready(6, "x"))
	checkTold(t, c, "")
}

// 20.1: what is refused tells nothing, and does not take back what is told.
func TestRefusedTellsNothing(t *testing.T) {
	c := made(t, 4, 1, 1)
	takeAll(t, c, ready(1, "x"))
	checkTake(t, c, ready(2, "x"), ready(0, "x"))
	takeAll(t, c, ready(2, "x"), ready(1, "x"), ready(0, "x"), ready(5, "x"), ready(3, mixed(4097, 1)))
	checkNotTold(t, c)
	takeAll(t, c, ready(4, "x"))
	for i := range 20 {
		takeAll(t, c, ready(1+i%4, strconv.Itoa(i)), ready(5, "x"), send(2, "x"))
		checkTold(t, c, "x")
	}
}
