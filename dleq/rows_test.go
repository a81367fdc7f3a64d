package dleq_test

import (
	"math/rand"
	"testing"

	"sandglass/api"
	"sandglass/dleq"
)

// The kinds of calls.
const (
	doProve = iota
	doVerify
	doChallenge
	kinds
)

// call is one, of as many of its arguments as its kind has.
type call struct {
	kind  int
	k     [2]api.Num
	s     said
	proof string
	l     []api.Point
	more  string
}

// answer is what a call was answered.
type answer struct {
	proof string
	k     api.Num
	is    bool
	err   api.Errno
}

func ask(c call) answer {
	var a answer
	switch c.kind {
	case doProve:
		a.proof, a.err = dleq.Prove(c.s.h, c.k[0], c.k[1], c.more)
	case doVerify:
		a.is = dleq.Verify(c.s.h, c.s.a, c.s.b, c.proof, c.more)
	case doChallenge:
		a.k = dleq.Challenge(c.l, c.more)
	}
	return a
}

// plain is the answer over big numbers, the library's sum and its curve.
func plain(c call) answer {
	var a answer
	switch c.kind {
	case doProve:
		a.proof, a.err = plainProve(c.s.h, c.k[0], c.k[1], c.more)
	case doVerify:
		a.is = plainVerify(c.s, c.proof, c.more)
	case doChallenge:
		a.k = plainChallenge(c.l, c.more)
	}
	return a
}

// anySecret and anyNum are at their edges, or in the midst.
func anySecret(r *rand.Rand) api.Num {
	if r.Intn(2) == 0 {
		return modulo(toBig(api.Num{r.Uint64(), r.Uint64(), r.Uint64(), r.Uint64()}))
	}
	l := secrets()
	return l[r.Intn(len(l))]
}

func anyNum(r *rand.Rand) api.Num {
	if r.Intn(4) == 0 {
		l := noSecrets()
		return l[r.Intn(len(l))]
	}
	return anySecret(r)
}

func anyPoint(r *rand.Rand) api.Point {
	l := points()
	if r.Intn(6) == 0 {
		l = wrong()
	}
	return l[r.Intn(len(l))]
}

func anyText(r *rand.Rand) string {
	b := make([]byte, []int{0, 1, r.Intn(200)}[r.Intn(3)])
	r.Read(b)
	return string(b)
}

// anyWrong is a proof or what it is of made another one, or none.
func anyWrong(r *rand.Rand, g said, s string) (said, string) {
	i := r.Intn(len(s))
	switch r.Intn(8) {
	case 0:
		return g, turned(s, i, s[i]^1<<r.Intn(8))
	case 1:
		return g, s[:i]
	case 2:
		return g, s + "x"
	case 3:
		return said{anyPoint(r), g.a, g.b}, s
	case 4:
		return said{g.h, anyPoint(r), g.b}, s
	case 5:
		return said{g.h, g.a, anyPoint(r)}, s
	case 6:
		return g, bytesOf(anyNum(r)) + s[32:]
	}
	return g, s[:32] + bytesOf(anyNum(r))
}

// anyCall is of a right proof most times, of a wrong one else.
func anyCall(r *rand.Rand) call {
	c := call{kind: r.Intn(kinds), k: [2]api.Num{anyNum(r), anyNum(r)}, more: anyText(r)}
	l := points()
	h, k := l[r.Intn(len(l))], anySecret(r)
	c.s = of(h, k)
	c.proof, _ = plainProve(h, k, anySecret(r), c.more)
	if r.Intn(2) == 0 {
		c.s, c.proof = anyWrong(r, c.s, c.proof)
	}
	for range r.Intn(8) {
		c.l = append(c.l, anyPoint(r))
	}
	if r.Intn(6) == 0 {
		c.more += "\x00"
	}
	return c
}

// 32.1, R5: random rows of calls: each is answered as the plain one answers it, and the same calls in another order have the same answers again.
func TestRandomRows(t *testing.T) {
	t.Parallel()
	r := rand.New(rand.NewSource(323))
	var done, held [kinds]int
	for range 4 {
		var asked []call
		var told []answer
		for range 30 {
			c := anyCall(r)
			got, want := ask(c), plain(c)
			if got != want {
				t.Fatalf("%v: %v; want %v", c, got, want)
			}
			asked, told = append(asked, c), append(told, got)
			done[c.kind]++
			if got.is || got.proof != "" {
				held[c.kind]++
			}
		}
		for _, i := range r.Perm(len(asked)) {
			if got := ask(asked[i]); got != told[i] {
				t.Fatalf("%v: again %v; was %v", asked[i], got, told[i])
			}
		}
	}
	for kind, count := range done {
		if count < 20 {
			t.Errorf("kind %d: %d calls", kind, count)
		}
		if few := held[kind] < 5 || count-held[kind] < 5; few && kind != doChallenge {
			t.Errorf("kind %d: %d of %d calls have a proof", kind, held[kind], count)
		}
	}
}
