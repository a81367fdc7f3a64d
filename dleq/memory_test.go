package dleq_test

import (
	"math/rand"
	"slices"
	"sync"
	"testing"

	"sandglass/api"
	"sandglass/dleq"
)

// R4: what is handed in is not changed, nor what lies behind its end, and what lies there counts nothing.
func TestHandedInIsNotChanged(t *testing.T) {
	t.Parallel()
	l := append(five(), wrong()...)
	was := slices.Clone(l)
	for n := range l {
		got := challenge(t, l[:n], "x")
		if again := challenge(t, slices.Clip(slices.Clone(l[:n])), "x"); again != got {
			t.Errorf("%d points: %x without room behind them, %x with it", n, again, got)
		}
		if !slices.Equal(l, was) {
			t.Fatalf("what was handed in is changed: %v", l)
		}
	}
	challenge(t, l[:0], "")
	challenge(t, l[3:3], "")
	if !slices.Equal(l, was) {
		t.Errorf("what was handed in is changed: %v", l)
	}
}

// R4: nothing is kept of a list, which may be another one the next time.
func TestHandedInIsNotKept(t *testing.T) {
	t.Parallel()
	l := five()
	first := challenge(t, l, "x")
	kept := l[2]
	l[2] = base
	if challenge(t, l, "x") == first {
		t.Error("another point has the same challenge")
	}
	l[2] = kept
	if challenge(t, l, "x") != first {
		t.Error("the same points have another challenge")
	}
}

// R5: the same calls in another order have the same answers again.
func TestSameAgain(t *testing.T) {
	t.Parallel()
	l := []api.Num{{1}, {5}, beside(q, -1), {}, q}
	p := []api.Point{base, ofBase(7), none}
	type asked struct {
		h    api.Point
		k, r api.Num
	}
	told := map[asked]string{}
	r := rand.New(rand.NewSource(321))
	for range 60 {
		x := asked{p[r.Intn(len(p))], l[r.Intn(len(l))], l[r.Intn(len(l))]}
		s := prove(t, x.h, x.k, x.r, "x")
		if was, is := told[x]; is && was != s {
			t.Errorf("%v: %x; was %x", x, s, was)
		}
		told[x] = s
	}
}

// R5: what many ask at the same time is told as to one alone.
func TestAtOnce(t *testing.T) {
	t.Parallel()
	shared := five()
	var group sync.WaitGroup
	for i := range 8 {
		group.Go(func() {
			for _, k := range []api.Num{{5}, {uint64(i) + 1}, {0, 0, 1, uint64(i)}} {
				h := shared[i%len(shared)]
				s := prove(t, h, k, api.Num{9, uint64(i)}, "x")
				taken(t, "at once", of(h, k), s, "x")
				refused(t, "at once", of(h, k), s, "y")
				challenge(t, shared, "x")
			}
		})
	}
	group.Wait()
}

// R1: whatever bytes and numbers are handed in, all calls end, without a panic.
func TestWhatever(t *testing.T) {
	t.Parallel()
	r := rand.New(rand.NewSource(322))
	whatever := func() api.Point {
		return api.Point{X: api.Num{r.Uint64(), 0, 0, r.Uint64()}, Y: api.Num{r.Uint64()}, None: r.Intn(2) == 0}
	}
	for range 1500 {
		b := make([]byte, r.Intn(70))
		r.Read(b)
		p := said{whatever(), whatever(), whatever()}
		refused(t, "whatever", p, string(b), string(b))
		refused(t, "whatever", said{base, base, whatever()}, string(b), string(b))
		challenge(t, []api.Point{p.h, base, p.a, p.b}, string(b))
		prove(t, p.h, api.Num{r.Uint64()}, api.Num{1}, string(b))
	}
	for range 60 {
		b := make([]byte, 64)
		r.Read(b)
		refused(t, "whatever", said{base, base, base}, string(b), "x")
	}
	if dleq.Verify(api.Point{}, api.Point{}, api.Point{}, "", "") {
		t.Error("nothing is no proof")
	}
}
