package release_test

import (
	"math/rand"
	"slices"
	"testing"

	"sandglass/release"
)

// 26.1: all rows of up to five acts, of few readings, on gates near them.
func TestAllRows(t *testing.T) {
	t.Parallel()
	acts := append(ticks(-1, 0, 1, 2, 3), crash())
	for begin := -1; begin <= 2; begin++ {
		for each := range 3 {
			for row := range 6 * 6 * 6 * 6 * 6 {
				x := newPair(t, begin, each)
				for range 5 {
					x.do(acts[row%6])
					row /= 6
					checkNow(t, x.g, x.p.now())
					for epoch := range 5 {
						checkOpen(t, x.g, epoch, x.p.open(epoch))
					}
				}
				if t.Failed() {
					t.Fatalf("begin %d, each %d, %v", begin, each, x.p.done)
				}
			}
		}
	}
}

// anyBegin, anyEach and anyAct are near the limits, beyond them, or in the midst.
func anyBegin(r *rand.Rand) int {
	l := farInts()
	return []int{r.Intn(5) - 1, r.Intn(100), mostBegin - 2 + r.Intn(5), l[r.Intn(len(l))]}[r.Intn(4)]
}

func anyEach(r *rand.Rand) int {
	l := farInts()
	return []int{r.Intn(5) - 1, 1 + r.Intn(10), mostEach - 2 + r.Intn(5), l[r.Intn(len(l))]}[r.Intn(4)]
}

func (x pair) anyAct(r *rand.Rand) act {
	l := farInts()
	switch r.Intn(40) {
	case 0:
		return tick(mostNow - 2 + r.Intn(5))
	case 1:
		return tick(l[r.Intn(len(l))])
	case 2, 3, 4, 5, 6, 7, 8:
		return crash()
	case 9, 10, 11, 12, 13, 14:
		return tick(r.Intn(400) - 10)
	}
	return tick(x.p.time(r.Intn(64)) - 1 + r.Intn(3))
}

// 26.1: random rows on several gates side by side: each tells what was done to it alone.
func TestRandomRows(t *testing.T) {
	t.Parallel()
	r := rand.New(rand.NewSource(26))
	lasts := map[bool]int{}
	for range 60 {
		var l []pair
		for range 2 + r.Intn(4) {
			l = append(l, newPair(t, anyBegin(r), anyEach(r)))
		}
		if r.Intn(2) == 0 { // two that are made of the same
			l = append(l, newPair(t, l[0].p.begin, l[0].p.each))
		}
		for range 40 {
			x := l[r.Intn(len(l))]
			x.do(x.anyAct(r))
			for _, y := range l {
				y.check(t)
			}
		}
		for _, x := range l {
			if x.p.open(0) {
				lasts[x.p.open(63)]++
			}
		}
	}
	if lasts[true] < 20 || lasts[false] < 20 {
		t.Errorf("all epochs are open, some are: %v", lasts)
	}
}

// told is all that a gate tells.
func told(g *release.Gate) []int {
	l := []int{g.Now()}
	for epoch := -1; epoch <= 64; epoch++ {
		open := 0
		if g.Open(epoch) {
			open = 1
		}
		l = append(l, g.Time(epoch), open)
	}
	return l
}

// R5: the same calls have the same answers again, be the gate asked at each step or at the end.
func TestSameAgain(t *testing.T) {
	r := rand.New(rand.NewSource(5))
	for range 100 {
		begin, each := anyBegin(r), anyEach(r)
		one, two := newPair(t, begin, each), newPair(t, begin, each)
		var answers [][]int
		for range 30 {
			one.do(one.anyAct(r))
			answers = append(answers, told(one.g), told(one.g))
		}
		again := newPair(t, begin, each)
		for i, a := range one.p.done {
			two.do(a)
			again.do(a)
			now := told(again.g)
			if !slices.Equal(now, answers[2*i]) || !slices.Equal(now, answers[2*i+1]) {
				t.Fatalf("begin %d, each %d, %v: other things are told", begin, each, again.p.done)
			}
		}
		if !slices.Equal(told(two.g), answers[len(answers)-1]) {
			t.Fatalf("begin %d, each %d, %v: other things are told at the end", begin, each, two.p.done)
		}
	}
}

// 26.1: one gate knows nothing of another one's readings and crashes, also if they are made of the same.
func TestTwoGates(t *testing.T) {
	one, two := newPair(t, 10, 5), newPair(t, 10, 5)
	if one.g == two.g {
		t.Fatal("the same gate twice")
	}
	one.do(tick(20))
	two.check(t)
	checkLast(t, two.g, -1)
	checkNow(t, two.g, 0)
	two.do(tick(10), crash())
	one.check(t)
	checkNow(t, one.g, 20)
	one.do(crash())
	two.do(tick(7))
	one.check(t)
	two.check(t)
	// One that is made later begins anew, and leaves the others as they are.
	three := newPair(t, 0, 1)
	three.check(t)
	three.do(tick(mostNow))
	one.check(t)
	two.check(t)
	newPair(t, 10, 5).check(t)
}

// T3: whatever the clock reads, back and forth, and however often it crashes, an epoch opens with a reading that has passed its Time, and never otherwise; and none that was open is shut.
func TestOnlyByReadings(t *testing.T) {
	r := rand.New(rand.NewSource(3))
	opened := 0
	for range 300 {
		x := newPair(t, r.Intn(20), 1+r.Intn(5))
		var was [64]bool
		for range 40 {
			a := tick(r.Intn(200))
			if r.Intn(3) == 0 {
				a = crash()
			}
			x.do(a)
			for epoch := range 64 {
				is := x.g.Open(epoch)
				if was[epoch] && !is {
					t.Fatalf("%d was open: %v", epoch, x.p.done)
				}
				if is && !was[epoch] {
					opened++
					if a.crash || a.now < x.g.Time(epoch) {
						t.Fatalf("%d opened: %v", epoch, x.p.done)
					}
				}
				was[epoch] = is
			}
		}
	}
	if opened < 3000 {
		t.Errorf("%d opened", opened)
	}
}
