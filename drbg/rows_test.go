package drbg_test

import (
	"math/rand"
	"slices"
	"strconv"
	"testing"

	"sandglass/api"
	"sandglass/drbg"
)

// The kinds of calls.
const (
	doReseed = iota
	doBytes
	doScalar
	doPoly
	doAsked
)

// call is one, of a text or of an int.
type call struct {
	kind int
	text string
	n    int
}

func (c call) String() string {
	switch c.kind {
	case doReseed:
		return "Reseed " + strconv.Itoa(len(c.text)) + ":" + digits(c.text)
	case doBytes:
		return "Bytes " + strconv.Itoa(c.n)
	case doScalar:
		return "Scalar"
	case doPoly:
		return "Poly " + strconv.Itoa(c.n)
	}
	return "Asked"
}

// answer is what a call was answered.
type answer struct {
	text string
	err  api.Errno
	nums []api.Num
	n    int
}

func (a answer) String() string {
	s := strconv.Itoa(len(a.text)) + ":" + digits(a.text) + ", " + strconv.Itoa(int(a.err)) + ", " + strconv.Itoa(a.n)
	for _, n := range a.nums {
		s += " " + strconv.FormatUint(n[3], 16) + ".."
	}
	return s
}

func (a answer) same(b answer) bool {
	return a.text == b.text && a.err == b.err && slices.Equal(a.nums, b.nums) && a.n == b.n
}

func ask(d *drbg.Drbg, c call) answer {
	var a answer
	switch c.kind {
	case doReseed:
		d.Reseed(c.text)
	case doBytes:
		a.text, a.err = d.Bytes(c.n)
	case doScalar:
		a.nums = []api.Num{d.Scalar()}
	case doPoly:
		a.nums = d.Poly(c.n)
	case doAsked:
		a.n = d.Asked()
	}
	return a
}

func (p *plainDrbg) ask(c call) answer {
	var a answer
	switch c.kind {
	case doReseed:
		p.update(c.text)
	case doBytes:
		a.text, a.err = p.bytes(c.n)
	case doScalar:
		a.nums = []api.Num{p.scalar()}
	case doPoly:
		a.nums = p.poly(c.n)
	case doAsked:
		a.n = p.told
	}
	return a
}

// 29.1, 29.2: all rows of up to four of ten calls.
func TestAllRows(t *testing.T) {
	t.Parallel()
	calls := []call{
		{kind: doReseed}, {kind: doReseed, text: "a"}, {kind: doReseed, text: "\x00"},
		{kind: doBytes}, {kind: doBytes, n: 32}, {kind: doBytes, n: 33}, {kind: doBytes, n: -1},
		{kind: doScalar}, {kind: doPoly, n: 2}, {kind: doPoly, n: -1},
	}
	for row := range 10 * 10 * 10 * 10 {
		x := newPair(t, "seed")
		var done []call
		for range 4 {
			c := calls[row%10]
			row /= 10
			done = append(done, c)
			if got, want := ask(x.d, c), x.p.ask(c); !got.same(want) {
				t.Fatalf("%v: %v; want %v", done, got, want)
			}
			checkAsked(t, x.d, x.p.told)
		}
		x.bytes(t, 32)
		if t.Failed() {
			t.Fatalf("%v", done)
		}
	}
}

// anyText and anyCall are at their edges, near them, or in the midst.
func anyText(r *rand.Rand) string {
	l := lengths()
	n := []int{0, r.Intn(5), r.Intn(200), l[r.Intn(len(l))]}[r.Intn(4)]
	all := texts(n)
	return all[r.Intn(len(all))]
}

func anyCall(r *rand.Rand) call {
	far := wrongLengths()
	switch r.Intn(20) {
	case 0, 1, 2, 3, 4:
		return call{kind: doReseed, text: anyText(r)}
	case 5, 6, 7:
		return call{kind: doScalar}
	case 8, 9, 10:
		return call{kind: doPoly, n: []int{r.Intn(12) - 2, r.Intn(9), far[r.Intn(len(far))]}[r.Intn(3)]}
	case 11:
		return call{kind: doAsked}
	case 12, 13:
		return call{kind: doBytes, n: far[r.Intn(len(far))]}
	case 14:
		return call{kind: doBytes, n: most - 2 + r.Intn(5)}
	}
	return call{kind: doBytes, n: []int{0, r.Intn(100), 32 * r.Intn(8), 32*r.Intn(8) + r.Intn(3), r.Intn(most)}[r.Intn(5)]}
}

// side is a generator among others, with what it was asked.
type side struct {
	pair
	seed string
	done []call
	told []answer
}

// ask holds that both answer the same.
func (x *side) ask(t *testing.T, c call) {
	t.Helper()
	got, want := ask(x.d, c), x.p.ask(c)
	x.done, x.told = append(x.done, c), append(x.told, got)
	if !got.same(want) || x.d.Asked() != x.p.told {
		t.Fatalf("seed %s, %v: %v, %d are asked; want %v, %d", digits(x.seed), x.done, got, x.d.Asked(), want, x.p.told)
	}
}

// again holds that the same calls on a new generator have the same answers.
func (x *side) again(t *testing.T) {
	t.Helper()
	d := drbg.New(x.seed)
	for i, c := range x.done {
		if got := ask(d, c); !got.same(x.told[i]) {
			t.Fatalf("seed %s, %v: again %v; was %v", digits(x.seed), x.done[:i+1], got, x.told[i])
		}
	}
}

// 29.1, 29.2, R5: random rows on several generators side by side: each tells what was done to it alone, and the same calls have the same answers again.
func TestRandomRows(t *testing.T) {
	t.Parallel()
	r := rand.New(rand.NewSource(29))
	kinds, errs := map[int]int{}, map[api.Errno]int{}
	for range 60 {
		var l []*side
		for range 1 + r.Intn(4) {
			seed := anyText(r)
			l = append(l, &side{pair: newPair(t, seed), seed: seed})
		}
		// Two of one seed.
		l = append(l, &side{pair: newPair(t, l[0].seed), seed: l[0].seed})
		for range 25 * len(l) {
			x := l[r.Intn(len(l))]
			c := anyCall(r)
			x.ask(t, c)
			kinds[c.kind]++
			errs[x.told[len(x.told)-1].err]++
		}
		for _, x := range l {
			x.again(t)
		}
	}
	for kind := range doAsked + 1 {
		if kinds[kind] < 100 {
			t.Errorf("calls %v", kinds)
		}
	}
	if errs[api.ErrArg] < 100 || len(errs) != 2 {
		t.Errorf("errors %v", errs)
	}
}

// R5: two of one seed go alike, also when their calls lie between each other's.
func TestTwins(t *testing.T) {
	t.Parallel()
	r := rand.New(rand.NewSource(5))
	for range 40 {
		seed := anyText(r)
		one, two := drbg.New(seed), drbg.New(seed)
		var ahead []call // of one alone so far
		for range 40 {
			c := anyCall(r)
			ahead = append(ahead, c)
			got := ask(one, c)
			if r.Intn(3) > 0 {
				continue
			}
			for i, c := range ahead {
				if a := ask(two, c); i == len(ahead)-1 && !a.same(got) {
					t.Fatalf("seed %s, %v: %v and %v", digits(seed), c, got, a)
				}
			}
			ahead = nil
		}
	}
}
