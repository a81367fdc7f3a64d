package release_test

import (
	"math"
	"slices"
	"testing"

	"sandglass/release"
)

// The limits, written out: 2^30, 2^20, 2^40.
const (
	mostBegin = 1073741824
	mostEach  = 1048576
	mostNow   = 1099511627776
)

// act is a Tick or a Crash.
type act struct {
	crash bool
	now   int
}

func tick(now int) act { return act{now: now} }

func crash() act { return act{crash: true} }

// ticks are Ticks of these, in order.
func ticks(l ...int) []act {
	var acts []act
	for _, now := range l {
		acts = append(acts, tick(now))
	}
	return acts
}

// farInts are ints at and near their edges, and such as wrap to small ones when they are multiplied or added up.
func farInts() []int {
	var l []int
	for _, k := range []int{math.MaxInt, math.MaxInt / 2, math.MaxInt / 3, math.MinInt, math.MinInt / 2, math.MinInt / 3} {
		for d := -3; d <= 3; d++ {
			l = append(l, k+d)
		}
	}
	for bit := 6; bit < 64; bit++ {
		k := 1 << bit
		l = append(l, k-1, k, k+1, k+5, k+63, -k, 1-k, -k-1, 63-k)
	}
	return l
}

// wrongEpochs are ints that are no epochs.
func wrongEpochs() []int {
	l := []int{-64, -63, -2, -1, 64, 65, 66, 127, 128, 255, 256}
	return append(l, slices.DeleteFunc(farInts(), func(k int) bool { return k >= 0 && k < 64 })...)
}

// middle is the one of the three between the others.
func middle(a, b, c int) int {
	l := []int{a, b, c}
	slices.Sort(l)
	return l[1]
}

// plainGate is what it was made of, and what was done to it, in order, and nothing else: each answer is found by going over that.
type plainGate struct {
	begin, each int
	done        []act
}

func (p *plainGate) time(epoch int) int {
	if epoch < 0 || epoch > 63 {
		return -1
	}
	at := middle(0, p.begin, mostBegin)
	for range epoch {
		at += middle(1, p.each, mostEach)
	}
	return at
}

// readings are those so far, ahead of crashes, too.
func (p *plainGate) readings() []int {
	var l []int
	for _, a := range p.done {
		if !a.crash {
			l = append(l, middle(0, a.now, mostNow))
		}
	}
	return l
}

func (p *plainGate) open(epoch int) bool {
	at := p.time(epoch)
	return at != -1 && slices.ContainsFunc(p.readings(), func(now int) bool { return now >= at })
}

func (p *plainGate) now() int {
	if len(p.done) == 0 || p.done[len(p.done)-1].crash {
		return 0
	}
	l := p.readings()
	return l[len(l)-1]
}

// pair is a gate, and the plain one to which the same was done.
type pair struct {
	g *release.Gate
	p *plainGate
}

// newPair is of that begin and each, to which these acts were done.
func newPair(t *testing.T, begin, each int, acts ...act) pair {
	t.Helper()
	x := pair{release.New(begin, each), &plainGate{begin: begin, each: each}}
	if x.g == nil {
		t.Fatalf("begin %d, each %d: no gate", begin, each)
	}
	x.do(acts...)
	return x
}

// do does these, and asks nothing.
func (x pair) do(acts ...act) {
	for _, a := range acts {
		if a.crash {
			x.g.Crash()
		} else {
			x.g.Tick(a.now)
		}
		x.p.done = append(x.p.done, a)
	}
}

// check holds that all that the gate tells is what the plain one tells.
func (x pair) check(t *testing.T) {
	t.Helper()
	checkNow(t, x.g, x.p.now())
	for epoch := -2; epoch <= 66; epoch++ {
		checkTime(t, x.g, epoch, x.p.time(epoch))
		checkOpen(t, x.g, epoch, x.p.open(epoch))
	}
	if t.Failed() {
		t.Fatalf("begin %d, each %d, %v", x.p.begin, x.p.each, x.p.done)
	}
}

func checkNow(t *testing.T, g *release.Gate, want int) {
	t.Helper()
	if got := g.Now(); got != want {
		t.Errorf("Now is %d; want %d", got, want)
	}
}

func checkTime(t *testing.T, g *release.Gate, epoch, want int) {
	t.Helper()
	if got := g.Time(epoch); got != want {
		t.Errorf("the Time of %d is %d; want %d", epoch, got, want)
	}
}

func checkOpen(t *testing.T, g *release.Gate, epoch int, want bool) {
	t.Helper()
	if got := g.Open(epoch); got != want {
		t.Errorf("%d is open: %v; want %v", epoch, got, want)
	}
}

// checkLast holds that the epochs up to the last are open (-1: none), and no others, be they epochs or not.
func checkLast(t *testing.T, g *release.Gate, last int) {
	t.Helper()
	for epoch := range 64 {
		checkOpen(t, g, epoch, epoch <= last)
	}
	for _, epoch := range wrongEpochs() {
		checkOpen(t, g, epoch, false)
	}
}
