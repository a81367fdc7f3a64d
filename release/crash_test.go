package release_test

import (
	"math"
	"testing"

	"sandglass/release"
)

// 26.1: behind a crash Now is 0 until the next Tick, and what was open stays open.
func TestCrash(t *testing.T) {
	for _, x := range []struct{ now, shown, last int }{{0, 0, -1}, {9, 9, -1}, {10, 10, 0}, {19, 19, 1}, {20, 20, 2}, {324, 324, 62}, {325, 325, 63}, {mostNow, mostNow, 63}, {math.MaxInt, mostNow, 63}, {math.MinInt, 0, -1}} {
		p := newPair(t, 10, 5, tick(x.now))
		checkNow(t, p.g, x.shown)
		p.do(crash())
		for range 2 {
			checkNow(t, p.g, 0)
			checkLast(t, p.g, x.last)
			p.check(t)
		}
		p.do(tick(x.now))
		checkNow(t, p.g, x.shown)
		checkLast(t, p.g, x.last)
	}
}

// 26.1: a crash is no reading: it opens nothing, also where the first Time is 0.
func TestCrashAtNought(t *testing.T) {
	for _, begin := range []int{0, -1, math.MinInt} {
		x := newPair(t, begin, 1, crash())
		checkLast(t, x.g, -1)
		checkNow(t, x.g, 0)
		x.do(crash(), crash())
		checkLast(t, x.g, -1)
		x.do(tick(0))
		checkLast(t, x.g, 0)
		x.do(crash())
		checkLast(t, x.g, 0)
		x.do(tick(1), crash())
		checkLast(t, x.g, 1)
		checkNow(t, x.g, 0)
	}
	// What a reading ahead of the crash had not opened, no crash opens.
	x := newPair(t, 1, 1, tick(0), crash())
	checkLast(t, x.g, -1)
	x.do(crash(), tick(0), crash())
	checkLast(t, x.g, -1)
}

// 26.1: a crash ahead of any reading, and several in a row, are as one behind readings.
func TestCrashRows(t *testing.T) {
	for crashes := range 4 {
		x := newPair(t, 10, 5)
		for range crashes {
			x.do(crash())
			x.check(t)
			checkLast(t, x.g, -1)
		}
		for _, y := range []struct{ now, last int }{{9, -1}, {12, 0}, {3, 0}, {25, 3}, {20, 3}, {30, 4}} {
			x.do(tick(y.now))
			checkNow(t, x.g, y.now)
			checkLast(t, x.g, y.last)
			for range crashes {
				x.do(crash())
				checkNow(t, x.g, 0)
				checkLast(t, x.g, y.last)
			}
			x.check(t)
		}
	}
}

// 26.1: readings behind a crash open as those ahead of it, and those ahead of it still count.
func TestCrashBetween(t *testing.T) {
	x := newPair(t, 10, 5, tick(20), crash())
	for _, y := range []struct{ now, last int }{{0, 2}, {10, 2}, {19, 2}, {20, 2}, {24, 2}, {25, 3}, {5, 3}} {
		x.do(tick(y.now))
		checkNow(t, x.g, y.now)
		checkLast(t, x.g, y.last)
	}
	x.do(crash(), tick(325), crash(), tick(-1), crash())
	checkLast(t, x.g, 63)
	checkNow(t, x.g, 0)
	// Readings on both sides of a crash are not added up.
	y := newPair(t, 10, 5, tick(9), crash(), tick(9), crash(), tick(9))
	checkLast(t, y.g, -1)
	checkNow(t, y.g, 9)
}

// 26.1, R1: what a gate that is none tells; nothing panics, and it stays none.
func TestNoGate(t *testing.T) {
	var g *release.Gate
	for range 2 {
		checkNow(t, g, 0)
		checkLast(t, g, -1)
		for epoch := range 64 {
			checkTime(t, g, epoch, -1)
		}
		for _, k := range append([]int{-1, 0, 1, 63, 64, math.MinInt, math.MaxInt, mostNow, mostNow + 1}, farInts()...) {
			checkTime(t, g, k, -1)
			checkOpen(t, g, k, false)
			g.Tick(k)
			checkNow(t, g, 0)
			g.Crash()
		}
	}
}
