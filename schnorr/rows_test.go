package schnorr_test

import (
	"math/rand"
	"testing"

	"sandglass/api"
	"sandglass/schnorr"
)

// The kinds of calls.
const (
	doProve = iota
	doVerify
	doChallenge
	doAll
	kinds
)

// call is one, of as many of its arguments as its kind has.
type call struct {
	kind   int
	k      [2]api.Num
	p      []api.Point
	proofs []string
	more   string
}

// answer is what a call was answered.
type answer struct {
	proof string
	k     api.Num
	is    bool
	err   api.Errno
}

func ask(c call) answer {
	var a answer
	switch c.kind {
	case doProve:
		a.proof, a.err = schnorr.Prove(c.k[0], c.k[1], c.more)
	case doVerify:
		a.is = schnorr.Verify(c.p[0], c.proofs[0], c.more)
	case doChallenge:
		a.k = schnorr.Challenge(c.p[0], c.p[1], c.more)
	case doAll:
		a.is = schnorr.All(c.p, c.proofs, c.more)
	}
	return a
}

// plain is the answer over big numbers, the library's sum and its curve.
func plain(c call) answer {
	var a answer
	switch c.kind {
	case doProve:
		a.proof, a.err = plainProve(c.k[0], c.k[1], c.more)
	case doVerify:
		a.is = plainVerify(c.p[0], c.proofs[0], c.more)
	case doChallenge:
		a.k = plainChallenge(c.p[0], c.p[1], c.more)
	case doAll:
		a.is = plainAll(c.p, c.proofs, c.more)
	}
	return a
}

// anySecret and anyNum are at their edges, or in the midst.
func anySecret(r *rand.Rand) api.Num {
	if r.Intn(2) == 0 {
		return modulo(toBig(api.Num{r.Uint64(), r.Uint64(), r.Uint64(), r.Uint64()}))
	}
	l := secrets()
	return l[r.Intn(len(l))]
}

func anyNum(r *rand.Rand) api.Num {
	if r.Intn(4) == 0 {
		l := noSecrets()
		return l[r.Intn(len(l))]
	}
	return anySecret(r)
}

func anyText(r *rand.Rand) string {
	b := make([]byte, []int{0, 1, r.Intn(200)}[r.Intn(3)])
	r.Read(b)
	return string(b)
}

// anyWrong is a proof or a point made another one, or none.
func anyWrong(r *rand.Rand, p api.Point, s string) (api.Point, string) {
	good, bad := points(), wrong()
	i := r.Intn(len(s))
	switch r.Intn(6) {
	case 0:
		return p, turned(s, i, s[i]^1<<r.Intn(8))
	case 1:
		return p, s[:i]
	case 2:
		return p, s + "x"
	case 3:
		return good[r.Intn(len(good))], s
	case 4:
		return bad[r.Intn(len(bad))], s
	}
	return p, s[:33] + bytesOf(anyNum(r))
}

// anyCall is of right proofs most times, of a wrong one in some place else.
func anyCall(r *rand.Rand) call {
	c := call{kind: r.Intn(kinds), k: [2]api.Num{anyNum(r), anyNum(r)}, more: anyText(r)}
	for range 2 + r.Intn(2) {
		k := anySecret(r)
		s, _ := plainProve(k, anySecret(r), c.more)
		c.p, c.proofs = append(c.p, multiple(k, base)), append(c.proofs, s)
	}
	if r.Intn(2) == 0 {
		i := r.Intn(len(c.p))
		c.p[i], c.proofs[i] = anyWrong(r, c.p[i], c.proofs[i])
	}
	switch r.Intn(6) {
	case 0:
		c.proofs = c.proofs[:len(c.proofs)-1]
	case 1:
		c.more += "\x00"
	}
	return c
}

// 31.1, R5: random rows of calls: each is answered as the plain one answers it, and the same calls in another order have the same answers again.
func TestRandomRows(t *testing.T) {
	t.Parallel()
	r := rand.New(rand.NewSource(313))
	var done, held [kinds]int
	for range 4 {
		var asked []call
		var told []answer
		for range 40 {
			c := anyCall(r)
			got, want := ask(c), plain(c)
			if got != want {
				t.Fatalf("%v: %v; want %v", c, got, want)
			}
			asked, told = append(asked, c), append(told, got)
			done[c.kind]++
			if got.is || got.proof != "" {
				held[c.kind]++
			}
		}
		for _, i := range r.Perm(len(asked)) {
			if got := ask(asked[i]); got != told[i] {
				t.Fatalf("%v: again %v; was %v", asked[i], got, told[i])
			}
		}
	}
	for kind, count := range done {
		if count < 20 {
			t.Errorf("kind %d: %d calls", kind, count)
		}
		if few := held[kind] < 5 || count-held[kind] < 5; few && kind != doChallenge {
			t.Errorf("kind %d: %d of %d calls have a proof", kind, held[kind], count)
		}
	}
}
