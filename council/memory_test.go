package council_test

import (
	"math"
	"math/rand"
	"slices"
	"testing"
	"unsafe"

	"sandglass/api"
	"sandglass/council"
)

// shared tells whether two texts have a byte of memory in common.
func shared(a, b string) bool {
	if a == "" || b == "" {
		return false
	}
	from, other := uintptr(unsafe.Pointer(unsafe.StringData(a))), uintptr(unsafe.Pointer(unsafe.StringData(b)))
	return from < other+uintptr(len(b)) && other < from+uintptr(len(a))
}

// written is a text whose bytes can be written over.
func written(s string) (string, []byte) {
	b := []byte(s + "behind")
	return unsafe.String(&b[0], len(s)), b
}

// R4: what is told shares no memory with what was handed in, nor with another answer, of the same node or of another one.
func TestNewMemory(t *testing.T) {
	for _, length := range []int{2, 3, 100, 4096} {
		for _, height := range []int{0, 1, 2, 3} {
			values := []string{mixed(length, 1), mixed(length, 2), mixed(length, 3)}
			l := slices.Clone(values)
			c := made(t, 4, 1, height, values...)
			if height == 3 {
				for k := 1; k <= 3; k++ {
					l = append(l, mixed(length, 4))
					checkForge(t, c, k, propose(4, 0, -1, l[len(l)-1]), true)
				}
			}
			deliverAll(t, c)
			for k := 1; k <= 3; k++ {
				for range 2 {
					value, is := c.Decided(k)
					if !is || value != mixed(length, uint64(height+1)) {
						t.Errorf("node %d decided %q, %v", k, short(value), is)
					}
					l = append(l, value)
				}
			}
			for i := range l {
				for k := range i {
					if shared(l[i], l[k]) {
						t.Errorf("%d bytes: %d and %d share memory", length, k, i)
					}
				}
			}
		}
	}
}

// R4: values that were handed in are not changed, what lies behind their end neither, and not kept: list and texts may be written over.
func TestValuesNotKept(t *testing.T) {
	for _, height := range []int{0, 1, 2} {
		for round := range 5 {
			var list []string
			var texts [][]byte
			for k := 1; k <= 5; k++ {
				text, bytes := written(mixed(300, uint64(k)))
				list, texts = append(list, text), append(texts, bytes)
			}
			before := slices.Clone(list)
			c := made(t, 4, 1, height, list[:3:3]...)
			d := council.New(4, 1, height, list[:3])
			if d == nil || !slices.Equal(list, before) {
				t.Error("New: the list became another one")
			}
			for k, bytes := range texts {
				if string(bytes) != mixed(300, uint64(k+1))+"behind" {
					t.Error("New: a text became another one")
				}
				clear(bytes)
			}
			clear(list)
			lead := leader(4, height, round)
			for _, x := range []*council.Council{c, d} {
				if round > 0 {
					toRound(t, x, size{4, 1}, round)
				}
				deliverAll(t, x)
				if lead <= 3 {
					checkDecided(t, x, mixed(300, uint64(lead)), 1, 2, 3)
				} else {
					checkDecided(t, x, "")
				}
			}
		}
	}
}

// R4: a forged word is not changed and not kept: its text may be written over while it is under way, and behind that.
func TestForgedNotKept(t *testing.T) {
	value := mixed(300, 1)
	c := quiet(t)
	hand := func(to int, w api.Word) {
		text, bytes := written(value)
		w.Value = text
		checkForge(t, c, to, w, true)
		if string(bytes) != value+"behind" {
			t.Error("what was handed in became another one")
		}
		clear(bytes)
	}
	for k := 1; k <= 3; k++ {
		hand(k, propose(4, 0, -1, ""))
		hand(k, prevote(4, 0, ""))
		hand(k, precommit(4, 0, ""))
	}
	for range 3 {
		for _, then := range []int{11, 10, 9} {
			checkDeliver(t, c, 0, then)
		}
	}
	// Node 3's votes are lost, so that node 4's are needed.
	loseThird := func() {
		for left := 8; left >= 6; left-- {
			checkLose(t, c, 6, left)
		}
	}
	loseThird()
	for _, then := range []int{5, 4, 3, 5, 7, 9} {
		checkDeliver(t, c, 0, then)
	}
	loseThird()
	deliverAll(t, c)
	checkDecided(t, c, value, 1, 2, 3)
}

// R4: one text for all that was forged, which is written over each time.
func TestForgedOneText(t *testing.T) {
	c := quiet(t)
	text, bytes := written("x1")
	for k := 1; k <= 3; k++ {
		bytes[1] = byte('0' + k)
		checkForge(t, c, 1, propose(4, 0, -1, text), true)
	}
	bytes[1] = '9'
	checkDeliver(t, c, 1, 5)
	checkLose(t, c, 0, 4)
	checkLose(t, c, 0, 3)
	checkTaken(t, c, letter{1, propose(4, 0, -1, "x2")})
}

// Two councils share nothing, also of the same numbers and values.
func TestTwoCouncils(t *testing.T) {
	values := []string{"a", "b", "c"}
	one, two, three := made(t, 4, 1, 0, values...), made(t, 4, 1, 0, values...), made(t, 4, 1, 3, values...)
	if one == two {
		t.Fatal("the same council twice")
	}
	checkDeliver(t, one, 0, 5)
	checkWaiting(t, two, 3)
	loseAll(t, two)
	checkWaiting(t, one, 5)
	checkWaiting(t, three, 0)
	checkForge(t, three, 1, propose(4, 0, -1, "z"), true)
	checkWaiting(t, two, 0)
	deliverAll(t, one)
	checkDecided(t, one, "a", 1, 2, 3)
	checkDecided(t, two, "")
	checkDecided(t, three, "")
	checkAllWait(t, two, size{4, 1}, 0)
	checkWaiting(t, one, 0)
	loseAll(t, two)
	toRound(t, two, size{4, 1}, 1)
	deliverAll(t, two)
	checkDecided(t, one, "a", 1, 2, 3)
	checkDecided(t, two, "b", 1, 2, 3)
	checkForge(t, three, 2, propose(4, 0, -1, "z"), true)
	checkForge(t, three, 3, propose(4, 0, -1, "z"), true)
	deliverAll(t, three)
	checkDecided(t, three, "z", 1, 2, 3)
	checkDecided(t, one, "a", 1, 2, 3)
	checkDecided(t, two, "b", 1, 2, 3)
}

// checkNobody holds that no node is honest and nothing is under way, whatever is done.
func checkNobody(t *testing.T, c *council.Council) {
	t.Helper()
	for _, i := range append(anyInts(), 0, 1) {
		if c.Deliver(i) || c.Lose(i) || c.Timeout(i, 1) || c.Timeout(1, i) {
			t.Errorf("%d: true", i)
		}
		for kind := range 6 {
			w := api.Word{Kind: kind, From: 4, Valid: -1, Value: "z"}
			checkForge(t, c, i, w, false)
			w.From = i
			checkForge(t, c, 1, w, false)
		}
		if value, is := c.Decided(i); value != "" || is {
			t.Errorf("node %d decided %q, %v", i, value, is)
		}
	}
	checkWaiting(t, c, 0)
	checkDecided(t, c, "")
}

// R1: a council that is nil has nobody and nothing under way, whatever is done to it.
func TestNoCouncil(t *testing.T) {
	var none *council.Council
	for _, c := range []*council.Council{none, council.New(3, 1, 0, owns(2)), council.New(4, 1, 0, owns(2)), council.New(0, 0, 0, nil), council.New(0, 0, 65, []string{})} {
		if c != nil {
			t.Error("there is a council")
		}
		checkNobody(t, c)
	}
}

// 23.1, R3, R6: where n - t is 0 there is a council, since no honest node is nil and no values are as many, also where chapter 22's New would have no part. It has nobody and nothing under way.
func TestNobodyHonest(t *testing.T) {
	for _, n := range []int{1, 2, 3, 4, 5, 6, 7, 8, 9, 4096, math.MaxInt, -1, -2, -7, -4096, math.MinInt} {
		for _, height := range []int{math.MinInt, -1, 0, 1, 64, 65, math.MaxInt} {
			for _, values := range [][]string{nil, {}, owns(3)[:0]} {
				checkNobody(t, made(t, n, n, height, values...))
			}
			// A value too many, and a node too few or too many among the honest ones.
			checkNew(t, n, n, height, owns(1), false)
			checkNew(t, n, n-1, height, nil, false)
			checkNew(t, n-1, n, height, nil, false)
		}
	}
}

// R1: of any arguments every call ends, and does not panic, in any state.
func TestAnyArguments(t *testing.T) {
	for _, x := range sizes() {
		c := whole(t, x, 5)
		for range 3 {
			for _, i := range anyInts() {
				c.Deliver(i)
				c.Lose(i)
				for _, k := range []int{math.MinInt, -1, 0, 1, 3, math.MaxInt, i} {
					c.Forge(i, api.Word{Kind: k, From: k, Round: i, Valid: k})
					c.Forge(1, api.Word{Kind: 1 + k&1, From: 7 - k&3, Round: i, Valid: i, Value: "z"})
					c.Timeout(k, i)
				}
				c.Decided(i)
				if count := c.Waiting(); count < 0 || count > 4096 {
					t.Fatalf("%d under way", count)
				}
			}
		}
	}
}

// R5: the same deeds in the same order have the same answers again.
func TestSameAgain(t *testing.T) {
	for _, x := range sizes() {
		for seed := range int64(12) {
			r := rand.New(rand.NewSource(seed))
			g := newPair(t, x, r.Intn(65))
			others := []*council.Council{whole(t, x, g.height), whole(t, x, g.height)}
			for range 150 {
				d := g.anyDeed(r)
				g.do(d)
				for _, c := range others {
					d.do(c)
					checkSame(t, c, g.c)
				}
			}
			if t.Failed() {
				t.Fatalf("n %d, t %d, seed %d", x.n, x.t, seed)
			}
		}
	}
}
