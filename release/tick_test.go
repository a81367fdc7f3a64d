package release_test

import (
	"math"
	"testing"

	"sandglass/release"
)

// readings are some, with what Now is behind each.
func readings() []struct{ now, shown int } {
	return []struct{ now, shown int }{
		{math.MinInt, 0}, {math.MinInt + 1, 0}, {-mostNow - 1, 0}, {-mostNow, 0}, {-2, 0}, {-1, 0}, {0, 0}, {1, 1}, {2, 2}, {63, 63}, {64, 64},
		{mostEach, mostEach}, {mostEach + 1, mostEach + 1}, {mostBegin - 1, mostBegin - 1}, {mostBegin, mostBegin}, {mostBegin + 1, mostBegin + 1},
		{math.MaxInt32, math.MaxInt32}, {math.MaxInt32 + 1, math.MaxInt32 + 1}, {1 << 32, 1 << 32},
		{mostNow - 2, 1099511627774}, {mostNow - 1, 1099511627775}, {mostNow, 1099511627776}, {mostNow + 1, 1099511627776}, {mostNow + 2, 1099511627776},
		{2 * mostNow, mostNow}, {math.MaxInt - 1, mostNow}, {math.MaxInt, mostNow},
	}
}

// 26.1: a reading is 0 to MaxNow, and beyond it counts as these; Now is the last one, be it less, more or the same.
func TestTickNow(t *testing.T) {
	for _, x := range readings() {
		g := release.New(10, 5)
		g.Tick(x.now)
		checkNow(t, g, x.shown)
		for _, y := range readings() {
			g.Tick(y.now)
			checkNow(t, g, y.shown)
			checkNow(t, g, y.shown)
			g.Tick(x.now)
			g.Tick(x.now)
			checkNow(t, g, x.shown)
		}
	}
	for _, now := range farInts() {
		x := newPair(t, 0, 1, tick(now))
		checkNow(t, x.g, middle(0, now, mostNow))
	}
}

// 26.1: what lies beyond 0 and MaxNow is a reading, too, of 0 and of MaxNow.
func TestTickBeyond(t *testing.T) {
	for _, now := range []int{-1, -2, -mostNow, math.MinInt} {
		x := newPair(t, 0, 1, tick(now))
		checkLast(t, x.g, 0)
		x = newPair(t, 1, 1, tick(now))
		checkLast(t, x.g, -1)
	}
	for _, now := range []int{mostNow + 1, mostNow + 2, 2 * mostNow, math.MaxInt} {
		x := newPair(t, mostBegin, mostEach, tick(now))
		checkLast(t, x.g, 63)
		x.do(tick(0))
		checkNow(t, x.g, 0)
		checkLast(t, x.g, 63)
	}
}

// 26.1: a clock that goes forth, back, and stays.
func TestTickBack(t *testing.T) {
	x := newPair(t, 10, 5)
	for _, y := range []struct{ now, shown, last int }{
		{9, 9, -1}, {9, 9, -1}, {0, 0, -1}, {10, 10, 0}, {9, 9, 0}, {10, 10, 0}, {3, 3, 0}, {14, 14, 0}, {3, 3, 0}, {15, 15, 1}, {14, 14, 1}, {0, 0, 1}, {-7, 0, 1},
		{19, 19, 1}, {20, 20, 2}, {20, 20, 2}, {10, 10, 2}, {324, 324, 62}, {1, 1, 62}, {325, 325, 63}, {325, 325, 63}, {0, 0, 63}, {math.MaxInt, mostNow, 63}, {math.MinInt, 0, 63},
	} {
		x.do(tick(y.now))
		checkNow(t, x.g, y.shown)
		checkLast(t, x.g, y.last)
		x.check(t)
	}
}

// 26.1: readings are not added up, nor held against one another.
func TestTickApart(t *testing.T) {
	x := newPair(t, 10, 5)
	for range 100 {
		x.do(ticks(9, 5, 9)...)
		checkLast(t, x.g, -1)
		checkNow(t, x.g, 9)
	}
	for range 100 {
		x.do(tick(14))
		checkLast(t, x.g, 0)
		checkNow(t, x.g, 14)
	}
}
