package release_test

import (
	"math"
	"testing"

	"sandglass/release"
)

// 26.1: begin is 0 to 2^30; beyond it counts as these.
func TestNewBegin(t *testing.T) {
	for _, x := range []struct{ begin, time int }{
		{math.MinInt, 0}, {math.MinInt + 1, 0}, {-mostBegin, 0}, {-2, 0}, {-1, 0}, {0, 0}, {1, 1}, {2, 2},
		{mostEach - 1, mostEach - 1}, {mostEach, mostEach}, {mostEach + 1, mostEach + 1},
		{mostBegin - 2, 1073741822}, {mostBegin - 1, 1073741823}, {mostBegin, 1073741824}, {mostBegin + 1, 1073741824}, {mostBegin + 2, 1073741824},
		{2 * mostBegin, mostBegin}, {mostNow - 1, mostBegin}, {mostNow, mostBegin}, {mostNow + 1, mostBegin}, {math.MaxInt - 1, mostBegin}, {math.MaxInt, mostBegin},
	} {
		for _, each := range []int{math.MinInt, 0, 1, 7, mostEach, math.MaxInt} {
			g := release.New(x.begin, each)
			checkTime(t, g, 0, x.time)
			checkTime(t, g, 1, x.time+middle(1, each, mostEach))
		}
	}
}

// 26.1: each is 1 to 2^20; beyond it counts as these.
func TestNewEach(t *testing.T) {
	for _, x := range []struct{ each, step int }{
		{math.MinInt, 1}, {math.MinInt + 1, 1}, {-mostEach, 1}, {-2, 1}, {-1, 1}, {0, 1}, {1, 1}, {2, 2}, {3, 3},
		{mostEach - 2, 1048574}, {mostEach - 1, 1048575}, {mostEach, 1048576}, {mostEach + 1, 1048576}, {mostEach + 2, 1048576},
		{2 * mostEach, mostEach}, {mostBegin - 1, mostEach}, {mostBegin, mostEach}, {mostNow, mostEach}, {math.MaxInt - 1, mostEach}, {math.MaxInt, mostEach},
	} {
		for _, begin := range []int{math.MinInt, -1, 0, 1, 10, mostBegin, math.MaxInt} {
			g, first := release.New(begin, x.each), middle(0, begin, mostBegin)
			for epoch := range 64 {
				checkTime(t, g, epoch, first+epoch*x.step)
			}
		}
	}
}

// 26.1: ahead of any reading Now is 0 and nothing is open, also where the first Time is 0; being asked is no reading.
func TestNewTells(t *testing.T) {
	for _, begin := range []int{math.MinInt, -1, 0, 1, 10, mostBegin, mostBegin + 1, math.MaxInt} {
		for _, each := range []int{math.MinInt, -1, 0, 1, 5, mostEach, mostEach + 1, math.MaxInt} {
			x := newPair(t, begin, each)
			for range 2 {
				checkLast(t, x.g, -1)
				checkNow(t, x.g, 0)
				x.check(t)
			}
		}
	}
}

// 26.1: whatever begin and each are, there is a gate, and it opens as they say.
func TestNewAny(t *testing.T) {
	for i, begin := range farInts() {
		for k, each := range farInts() {
			if (i+k)%7 == 0 {
				x := newPair(t, begin, each)
				checkTime(t, x.g, 63, x.p.time(63))
				x.do(tick(x.p.time(1) - 1))
				checkOpen(t, x.g, 1, false)
				x.do(tick(x.p.time(1)))
				checkOpen(t, x.g, 1, true)
				checkOpen(t, x.g, 2, false)
			}
		}
	}
}
