package cast_test

import (
	"math/rand"
	"slices"
	"testing"
	"unsafe"

	"sandglass/api"
	"sandglass/cast"
)

// shared tells whether two texts have a byte of memory in common.
func shared(a, b string) bool {
	if a == "" || b == "" {
		return false
	}
	from, other := uintptr(unsafe.Pointer(unsafe.StringData(a))), uintptr(unsafe.Pointer(unsafe.StringData(b)))
	return from < other+uintptr(len(b)) && other < from+uintptr(len(a))
}

// R4: what is said and told shares no memory with what was handed in, nor with another answer.
func TestNewMemory(t *testing.T) {
	for _, length := range []int{2, 3, 100, 4096} {
		var l []string
		c := made(t, 4, 1, 1)
		hand := func(m api.Cast) {
			m.Body = mixed(length, 1)
			l = append(l, m.Body)
			for _, said := range c.Take(m) {
				l = append(l, said.Body)
			}
			body, _ := c.Told()
			l = append(l, body)
		}
		hand(send(1, ""))
		for k := 1; k <= 4; k++ {
			hand(echo(k, ""))
		}
		for k := 1; k <= 4; k++ {
			hand(ready(k, ""))
		}
		// Nine handed in, an echo and a ready said, and told behind the last two.
		if n := len(slices.DeleteFunc(slices.Clone(l), func(s string) bool { return s == "" })); n != 13 {
			t.Errorf("%d texts", n)
		}
		for i := range l {
			for k := range i {
				if shared(l[i], l[k]) {
					t.Errorf("%d bytes: %d and %d share memory", length, k, i)
				}
			}
		}
	}
}

// written is a text whose bytes can be written over.
func written(s string) (string, []byte) {
	b := []byte(s + "behind")
	return unsafe.String(&b[0], len(s)), b
}

// R4: what was handed in is not changed, and not kept: it may be written over behind each call.
func TestNothingKept(t *testing.T) {
	body := mixed(300, 1)
	c := made(t, 4, 1, 1)
	for _, m := range []api.Cast{send(1, body), echo(1, body), echo(2, body), echo(3, body), ready(1, body), ready(2, body), ready(3, body), ready(4, body)} {
		text, bytes := written(body)
		m.Body = text
		said := c.Take(m)
		if string(bytes) != body+"behind" {
			t.Errorf("kind %d from %d: what was handed in became another one", m.Kind, m.From)
		}
		clear(bytes)
		switch {
		case m.Kind == 1:
			checkSaid(t, said, echo(0, body))
		case m == echo(3, text):
			checkSaid(t, said, ready(0, body))
		default:
			checkSaid(t, said)
		}
	}
	checkTold(t, c, body)
}

// R4: a voice stays, though later ones of the same Body were handed in in memory that is written over.
func TestVoicesKept(t *testing.T) {
	body, other := mixed(300, 1), mixed(300, 2)
	for _, kind := range []int{2, 3} {
		c := made(t, 7, 2, 1)
		takeAll(t, c, api.Cast{Kind: kind, From: 1, Body: body})
		text, bytes := written(body)
		takeAll(t, c, api.Cast{Kind: kind, From: 2, Body: text})
		// The memory becomes another Body, of which one voice counts.
		copy(bytes, other)
		takeAll(t, c, api.Cast{Kind: kind, From: 7, Body: text})
		if kind == 2 {
			takeAll(t, c, echo(3, body), echo(4, body))
			checkTake(t, c, echo(5, body), ready(0, body))
			continue
		}
		checkTake(t, c, ready(3, body), ready(0, body))
		takeAll(t, c, ready(4, body))
		checkNotTold(t, c)
		takeAll(t, c, ready(5, body))
		checkTold(t, c, body)
	}
}

func checkSaid(t *testing.T, got []api.Cast, want ...api.Cast) {
	t.Helper()
	if !slices.Equal(got, want) {
		t.Errorf("%d said: %.60v; want %d", len(got), got, len(want))
	}
}

// R4: what Take has handed out stays when the part goes on, and the part when it is changed, also behind its end.
func TestAnswersStay(t *testing.T) {
	c := made(t, 4, 1, 1)
	first := c.Take(send(1, "x"))
	checkSaid(t, first, echo(0, "x"))
	takeAll(t, c, echo(1, "x"), echo(2, "x"))
	second := c.Take(echo(3, "x"))
	checkSaid(t, second, ready(0, "x"))
	_ = append(first[:1], echo(1, "y"), echo(2, "y"))
	_ = append(second[:0], ready(9, "y"))
	checkSaid(t, first, echo(0, "x"))
	first[0], second[0] = ready(1, "z"), send(3, "z")
	takeAll(t, c, ready(1, "x"), ready(2, "x"), ready(3, "x"), ready(4, "y"))
	checkTold(t, c, "x")
	checkSaid(t, first, ready(1, "z"))
	checkSaid(t, second, send(3, "z"))
}

// 20.1: two parts share nothing, also of the same broadcast, and of the same messages.
func TestTwoParts(t *testing.T) {
	one, two := made(t, 4, 1, 1), made(t, 4, 1, 1)
	if one == two {
		t.Fatal("the same part twice")
	}
	checkTake(t, one, send(1, "x"), echo(0, "x"))
	takeAll(t, one, echo(1, "x"), echo(2, "x"))
	// What the one has counted is not counted, and bars nothing, in the other one.
	takeAll(t, two, echo(3, "x"), echo(1, "x"))
	checkTake(t, two, send(1, "y"), echo(0, "y"))
	checkTake(t, one, echo(3, "x"), ready(0, "x"))
	checkTake(t, two, echo(2, "x"), ready(0, "x"))
	takeAll(t, one, ready(1, "x"), ready(2, "x"), ready(3, "x"))
	checkTold(t, one, "x")
	checkNotTold(t, two)
	takeAll(t, two, ready(1, "y"), ready(2, "y"), ready(3, "y"))
	checkTold(t, one, "x")
	checkTold(t, two, "y")
	// Other n, t and senders beside them change nothing.
	three := made(t, 7, 2, 5)
	takeAll(t, three, send(1, "x"), echo(1, "x"), ready(1, "x"), ready(2, "x"))
	takeAll(t, one, ready(4, "z"), send(1, "z"))
	checkNotTold(t, three)
	checkTold(t, one, "x")
}

// R1: a part that is nil says nothing and is told nothing, whatever it is handed.
func TestNoPart(t *testing.T) {
	var c *cast.Cast
	for _, m := range append(messages(7, "x", ""), send(0, "x"), echo(-1, mixed(4097, 1)), api.Cast{}) {
		takeAll(t, c, m)
		checkNotTold(t, c)
	}
	none := cast.New(3, 1, 1)
	takeAll(t, none, send(1, "x"), ready(1, "x"), ready(2, "x"), ready(3, "x"))
	checkNotTold(t, none)
}

// R1: of any message a part ends, and does not panic; being asked changes nothing.
func TestAnyMessage(t *testing.T) {
	ints := append(farInts(), 0, 1, 2, 3, 4, 5, 6, 7)
	for _, x := range sizes() {
		c := made(t, x.n, x.t, 1)
		for _, kind := range ints {
			for _, from := range ints {
				if kind < 1 || kind > 3 || from < 1 || from > x.n {
					takeAll(t, c, api.Cast{Kind: kind, From: from}, api.Cast{Kind: kind, From: from, Body: "x"})
				}
			}
		}
		checkNotTold(t, c)
		checkNotTold(t, c)
	}
}

// R5: the same messages in the same order have the same answers again, though several bodies have voices.
func TestSameAgain(t *testing.T) {
	bodies := []string{"", "a", "b", "c", "d", "e", "f"}
	for _, x := range sizes() {
		for seed := range int64(20) {
			r := rand.New(rand.NewSource(seed))
			var l []api.Cast
			for range 60 {
				l = append(l, api.Cast{Kind: 1 + r.Intn(3), From: 1 + r.Intn(x.n), Body: bodies[r.Intn(1+r.Intn(7))]})
			}
			from := 1 + r.Intn(x.n)
			parts := []*cast.Cast{made(t, x.n, x.t, from), made(t, x.n, x.t, from), made(t, x.n, x.t, from)}
			for _, m := range l {
				said := parts[0].Take(m)
				body, is := parts[0].Told()
				for _, c := range parts[1:] {
					checkTake(t, c, m, said...)
					if b, also := c.Told(); b != body || also != is {
						t.Errorf("told %q, %v, and again %q, %v", body, is, b, also)
					}
				}
			}
		}
	}
}
