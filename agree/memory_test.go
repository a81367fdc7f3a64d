package agree_test

import (
	"math"
	"math/rand"
	"runtime"
	"slices"
	"testing"
	"unsafe"
	"weak"

	"sandglass/agree"
	"sandglass/api"
)

// shared tells whether two texts have a byte of memory in common.
func shared(a, b string) bool {
	if a == "" || b == "" {
		return false
	}
	from, other := uintptr(unsafe.Pointer(unsafe.StringData(a))), uintptr(unsafe.Pointer(unsafe.StringData(b)))
	return from < other+uintptr(len(b)) && other < from+uintptr(len(a))
}

// row is a whole agreement of node 1 among four: it proposes, locks, proposes again what is valid, and decides.
func row(value string) []api.Word {
	return []api.Word{
		propose(1, 0, -1, value), prevote(1, 0, value), prevote(2, 0, value), prevote(3, 0, value),
		timeout(0, 3), prevote(2, 4, value), prevote(3, 4, value),
		propose(1, 4, 0, value), prevote(1, 4, value),
		precommit(1, 4, value), precommit(2, 4, value), precommit(3, 4, value),
	}
}

// answers are what is said behind each word of the row.
func answers(value string) [][]api.Word {
	l := make([][]api.Word, 12)
	l[0] = says(prevote(1, 0, value))
	l[3] = says(precommit(1, 0, value))
	l[6] = says(propose(1, 4, 0, value))
	l[7] = says(prevote(1, 4, value))
	l[8] = says(precommit(1, 4, value))
	return l
}

// R4: what is said and told shares no memory with what was handed in, nor with another answer.
func TestNewMemory(t *testing.T) {
	for _, length := range []int{2, 3, 100, 4096} {
		value := mixed(length, 1)
		l := []string{value}
		a := made(t, 4, 1, 1, 0, value)
		for _, w := range a.Start() {
			l = append(l, w.Value)
		}
		for _, w := range row("") {
			if w.Kind != 4 {
				w.Value = mixed(length, 1)
			}
			l = append(l, w.Value)
			for _, said := range a.Take(w) {
				l = append(l, said.Value)
			}
			lock, _ := a.Locked()
			decision, _ := a.Decided()
			l = append(l, lock, decision)
		}
		again, _ := a.Decided()
		l = append(l, again)
		// The node's value, its first proposal, 11 handed in, 5 said, 9 locks, a decision twice.
		if n := len(slices.DeleteFunc(slices.Clone(l), func(s string) bool { return s == "" })); n != 29 {
			t.Errorf("%d texts", n)
		}
		for i := range l {
			for k := range i {
				if shared(l[i], l[k]) {
					t.Errorf("%d bytes: %d and %d share memory", length, k, i)
				}
			}
		}
	}
}

// R4: words of one answer share no memory, either.
func TestOneAnswer(t *testing.T) {
	value := mixed(100, 1)
	a := made(t, 1, 0, 1, 0, value)
	a.Start()
	takeAll(t, a, propose(1, 6, -1, value))
	said := a.Take(prevote(1, 6, value))
	checkSaid(t, said, propose(1, 6, -1, value), prevote(1, 6, value), precommit(1, 6, value))
	if shared(said[0].Value, said[1].Value) || shared(said[1].Value, said[2].Value) || shared(said[0].Value, said[2].Value) {
		t.Error("two words share memory")
	}
}

// written is a text whose bytes can be written over.
func written(s string) (string, []byte) {
	b := []byte(s + "behind")
	return unsafe.String(&b[0], len(s)), b
}

// R4: what was handed in is not changed, and not kept: it may be written over behind each call.
func TestNothingKept(t *testing.T) {
	value := mixed(300, 1)
	text, bytes := written(value)
	a := made(t, 4, 1, 1, 0, text)
	if string(bytes) != value+"behind" {
		t.Error("New: what was handed in became another one")
	}
	clear(bytes)
	checkSaid(t, a.Start(), propose(1, 0, -1, value))
	for i, w := range row(value) {
		if w.Kind != 4 {
			w.Value, bytes = written(value)
		}
		said := a.Take(w)
		if w.Kind != 4 && string(bytes) != value+"behind" {
			t.Errorf("%d: what was handed in became another one", i)
		}
		clear(bytes)
		checkSaid(t, said, answers(value)[i]...)
	}
	checkState(t, a, locked(4, 3, value, 4).decides(value))
	// A value that is proposed only behind other words, and a proposal that waits.
	text, bytes = written(value)
	b := made(t, 4, 1, 2, 0, text)
	clear(bytes)
	b.Start()
	text, bytes = written(value + "2")
	takeAll(t, b, propose(3, 2, -1, text))
	clear(bytes)
	checkTake(t, b, timeout(0, 3), propose(2, 1, -1, value))
	checkTake(t, b, timeout(1, 3), prevote(2, 2, value+"2"))
}

// R4: what was handed out stays when the part goes on, and the part when it is changed, also behind its end.
func TestAnswersStay(t *testing.T) {
	a := made(t, 4, 1, 1, 0, "xyz")
	var handed [][]api.Word
	handed = append(handed, a.Start())
	for i, w := range row("xyz") {
		said := a.Take(w)
		checkSaid(t, said, answers("xyz")[i]...)
		for k := range said {
			said[k] = precommit(9, 9, "other")
		}
		_ = append(said, prevote(3, 3, "other"))
		handed = append(handed, said)
	}
	checkSaid(t, handed[0], propose(1, 0, -1, "xyz"))
	for _, l := range handed[1:] {
		for _, w := range l {
			if w != precommit(9, 9, "other") {
				t.Errorf("%v", w)
			}
		}
	}
	checkState(t, a, locked(4, 3, "xyz", 4).decides("xyz"))
}

// handedOut is where an answer of a lies, of which nothing else is kept here.
func handedOut(t *testing.T, a *agree.Agree) weak.Pointer[api.Word] {
	t.Helper()
	said := a.Take(timeout(0, 1))
	checkSaid(t, said, prevote(1, 0, ""))
	return weak.Make(&said[0])
}

// R4: an answer is not kept: once nobody else has it, it is gone, though the part is there.
func TestAnswerNotKept(t *testing.T) {
	a := started(t, 1)
	where := handedOut(t, a)
	runtime.GC()
	if where.Value() != nil {
		t.Error("the part keeps what it said")
	}
	checkState(t, a, at(0, 2))
}

// Two parts share nothing: what the one has taken neither counts nor bars in the other one, also of the same node and height.
func TestTwoParts(t *testing.T) {
	one, two, three := started(t, 4), started(t, 4), made(t, 4, 1, 4, 0, "three")
	if one == two {
		t.Fatal("the same part twice")
	}
	toLock(t, one, 0)
	checkState(t, two, at(0, 1))
	checkTake(t, two, propose(1, 0, -1, "y"), prevote(4, 0, "y"))
	takeAll(t, two, votesOf(2, 0, "y", 1, 2)...)
	checkState(t, one, locked(0, 3, "x", 0))
	checkTake(t, two, prevote(3, 0, "y"), precommit(4, 0, "y"))
	takeAll(t, one, votesOf(3, 0, "x", 1, 2)...)
	takeAll(t, two, votesOf(3, 0, "y", 3, 4)...)
	checkState(t, two, locked(0, 3, "y", 0))
	takeAll(t, one, precommit(3, 0, "x"))
	checkState(t, one, locked(0, 3, "x", 0).decides("x"))
	checkState(t, two, locked(0, 3, "y", 0))
	checkState(t, three, at(-1, 0))
	takeAll(t, two, precommit(1, 0, "y"))
	checkState(t, two, locked(0, 3, "y", 0).decides("y"))
	checkState(t, one, locked(0, 3, "x", 0).decides("x"))
	checkSaid(t, three.Start())
	checkTake(t, three, propose(1, 0, -1, "z"), prevote(4, 0, "z"))
	checkState(t, three, at(0, 2))
}

// R1: a part that is nil says nothing, decides nothing, and tells zero values, whatever it is handed.
func TestNoPart(t *testing.T) {
	var none *agree.Agree
	for _, a := range []*agree.Agree{none, agree.New(3, 1, 1, 0, "x"), agree.New(4, 1, 0, 0, "x")} {
		checkSaid(t, a.Start())
		checkState(t, a, state{})
		for _, w := range append(row("x"), timeout(0, 1), timeout(-1, 3), propose(1, math.MaxInt, math.MinInt, ""), api.Word{}) {
			takeAll(t, a, w)
			checkState(t, a, state{})
		}
		checkSaid(t, a.Start())
	}
}

// R5: the same words in the same order have the same answers again.
func TestSameAgain(t *testing.T) {
	values := []string{"", "a", "b", "c", "d", "e", "f"}
	for _, x := range sizes() {
		for seed := range int64(20) {
			r := rand.New(rand.NewSource(seed))
			me, height := 1+r.Intn(x.n), r.Intn(65)
			p := newPlain(x.n, x.t, me, height, "own")
			p.start()
			var parts []*agree.Agree
			for range 3 {
				parts = append(parts, made(t, x.n, x.t, me, height, "own"))
				parts[len(parts)-1].Start()
			}
			few := values[:1+r.Intn(7)]
			for range 80 {
				w := anyWord(r, p, few)
				p.take(w)
				said, told := parts[0].Take(w), stateOf(parts[0])
				for _, a := range parts[1:] {
					checkTake(t, a, w, said...)
					checkState(t, a, told)
				}
			}
		}
	}
}

// Being asked changes nothing, however often, at any time.
func TestAsking(t *testing.T) {
	a := made(t, 4, 1, 1, 0, "x")
	b := made(t, 4, 1, 1, 0, "x")
	a.Start()
	b.Start()
	for _, w := range row("x") {
		for range 3 {
			checkState(t, a, stateOf(a))
		}
		checkSaid(t, a.Take(w), b.Take(w)...)
	}
	checkState(t, a, stateOf(b))
}
