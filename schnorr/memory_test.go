package schnorr_test

import (
	"math/rand"
	"slices"
	"sync"
	"testing"

	"sandglass/api"
	"sandglass/schnorr"
)

// R4: what is handed in is not changed, nor what lies behind its end, and what lies there counts nothing.
func TestHandedInIsNotChanged(t *testing.T) {
	t.Parallel()
	p, proofs := many(t, 4, "x")
	wasP, wasProofs := slices.Clone(p), slices.Clone(proofs)
	all(t, "a part of both", p[:2], proofs[:2], "x", true)
	all(t, "a part of the points", p[:2], proofs[:3], "x", false)
	all(t, "a part of the proofs", p[:3], proofs[:2], "x", false)
	all(t, "no points, with room", p[:0], proofs[:0], "x", false)
	all(t, "others", p[:2], proofs[1:3], "x", false)
	all(t, "all", p, proofs, "x", true)
	if !slices.Equal(p, wasP) || !slices.Equal(proofs, wasProofs) {
		t.Errorf("what was handed in is changed: %v, %x", p, proofs)
	}
}

// R4: nothing is kept of lists, which may be other ones the next time.
func TestHandedInIsNotKept(t *testing.T) {
	t.Parallel()
	p, proofs := many(t, 3, "x")
	all(t, "right ones", p, proofs, "x", true)
	kept := proofs[1]
	proofs[1] = proofs[2]
	all(t, "a wrong one", p, proofs, "x", false)
	proofs[1] = kept
	all(t, "right ones again", p, proofs, "x", true)
	p[0] = none
	all(t, "a wrong point", p, proofs, "x", false)
}

// R5: the same calls in another order have the same answers again.
func TestSameAgain(t *testing.T) {
	t.Parallel()
	l := []api.Num{{1}, {5}, mixed, beside(q, -1), {}, q}
	told := map[[2]api.Num]string{}
	r := rand.New(rand.NewSource(311))
	for range 60 {
		x := [2]api.Num{l[r.Intn(len(l))], l[r.Intn(len(l))]}
		s := prove(t, x[0], x[1], "x")
		if was, is := told[x]; is && was != s {
			t.Errorf("%x: %x; was %x", x, s, was)
		}
		told[x] = s
	}
}

// R5: what many ask at the same time is told as to one alone.
func TestAtOnce(t *testing.T) {
	t.Parallel()
	var group sync.WaitGroup
	for i := range 8 {
		group.Go(func() {
			for _, k := range []api.Num{{5}, {uint64(i) + 1}, {0, 0, 1, uint64(i)}} {
				s := prove(t, k, api.Num{9, uint64(i)}, "x")
				taken(t, "at once", multiple(k, base), s, "x")
				refused(t, "at once", multiple(k, base), s, "y")
				challenge(t, base, multiple(k, base), "x")
			}
		})
	}
	group.Wait()
}

// R1: whatever bytes and numbers are handed in, all calls end, without a panic.
func TestWhatever(t *testing.T) {
	t.Parallel()
	r := rand.New(rand.NewSource(312))
	for range 1500 {
		b := make([]byte, r.Intn(70))
		r.Read(b)
		if len(b) > 0 && r.Intn(2) == 0 {
			b[0] = 2 + b[0]&1
		}
		p := api.Point{X: api.Num{r.Uint64(), 0, 0, r.Uint64()}, Y: api.Num{r.Uint64()}, None: r.Intn(2) == 0}
		refused(t, "whatever", p, string(b), string(b))
		refused(t, "whatever", base, string(b), string(b))
		all(t, "whatever", []api.Point{p}, []string{string(b)}, "", false)
		challenge(t, p, base, string(b))
	}
	if schnorr.Verify(api.Point{}, "", "") || schnorr.All(nil, nil, "") {
		t.Error("nothing is no proof")
	}
}
