package vault_test

import (
	"math"
	"testing"

	"sandglass/api"
)

// opened holds which epochs are open, of a setting of two.
func (x pair) opened(t *testing.T, want ...bool) {
	t.Helper()
	for epoch, is := range want {
		_, err := x.v.Emit(epoch)
		_, plain := x.p.emit(epoch)
		if (err == api.OK) != is || (plain == api.OK) != is || err != api.OK && err != api.ErrEarly {
			t.Errorf("begin %d, each %d, %v: Emit of %d: %d, the plain one %d", x.p.begin, x.p.each, x.p.readings, epoch, err, plain)
		}
	}
}

// 28.2, T3: an epoch is open behind a reading of its time or more, and stays so when the clock goes back.
func TestTick(t *testing.T) {
	t.Parallel()
	for _, x := range []struct {
		now         []int
		first, next bool
	}{
		{nil, false, false}, {[]int{0}, false, false}, {[]int{9}, false, false}, {[]int{10}, true, false}, {[]int{14}, true, false}, {[]int{15}, true, true},
		{[]int{10, 9}, true, false}, {[]int{15, 10, 0}, true, true}, {[]int{9, 9, 9}, false, false}, {[]int{9, 8, 10, 7, 14}, true, false}, {[]int{12, 3}, true, false},
		{[]int{-1}, false, false}, {[]int{-15, -10}, false, false}, {[]int{math.MinInt}, false, false}, {[]int{math.MaxInt}, true, true}, {[]int{1 << 40}, true, true},
		{[]int{1<<40 + 1}, true, true}, {[]int{math.MinInt, 14, math.MinInt}, true, false}, {[]int{math.MaxInt, math.MinInt}, true, true}, {[]int{1 << 32}, true, true}, {[]int{5, 5}, false, false},
	} {
		one := newPair(t, standard(1))
		for _, now := range x.now {
			one.tick(now)
		}
		one.opened(t, x.first, x.next)
	}
}

// 28.2, T3: behind a crash what was open is open, and nothing else till the next reading.
func TestTickBehindCrash(t *testing.T) {
	t.Parallel()
	x := newPair(t, standard(1, 2))
	x.crash(0)
	x.opened(t, false, false)
	x.tick(10)
	x.crash(0)
	x.opened(t, true, false)
	x.crash(top)
	x.tick(9)
	x.opened(t, true, false)
	x.tick(14)
	x.crash(1)
	x.opened(t, true, false)
	x.tick(15)
	x.opened(t, true, true)
	x.crash(0)
	x.crash(0)
	x.opened(t, true, true)
	x.tick(math.MinInt)
	x.opened(t, true, true)
}

// 26.1, 28.2: that the clock shows 0 behind a crash is no reading: with begin 0 it opens nothing.
func TestCrashIsNoReading(t *testing.T) {
	for _, begin := range []int{0, -1, math.MinInt} {
		s := standard(1, 2)
		s.begin = begin
		x := newPair(t, s)
		x.crash(0)
		x.opened(t, false, false)
		x.tick(math.MinInt)
		x.opened(t, true, false)
	}
}

// 28.2, T2: what ticks has no say in the catalogue and in the shares that came in.
func TestTickAlone(t *testing.T) {
	x := newPair(t, standard(1, 2))
	x.doAll(t, keyCommand(0, keyOf(7)), putCommand(0, "f", sealed(7, "of f")))
	x.takeAll(t, 0, polynomials()[:2]...)
	for _, now := range []int{math.MinInt, 0, 15, 3, math.MaxInt} {
		x.open(t, "f", "of f", api.OK)
		x.tick(now)
		x.check(t)
	}
	x.take(t, 0, 0, shareAt(polynomials()[0][0], 3), false)
	x.take(t, 1, 0, shareAt(polynomials()[0][1], 3), true)
}
