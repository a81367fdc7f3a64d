package release_test

import (
	"math"
	"testing"

	"sandglass/release"
)

// 26.1: begin and epoch times each, of each epoch.
func TestTimeByHeart(t *testing.T) {
	for _, x := range []struct{ begin, each, epoch, time int }{
		{10, 5, 0, 10}, {10, 5, 1, 15}, {10, 5, 2, 20}, {10, 5, 3, 25}, {10, 5, 62, 320}, {10, 5, 63, 325},
		{0, 1, 0, 0}, {0, 1, 1, 1}, {0, 1, 63, 63}, {1, 1, 63, 64}, {3, 100, 7, 703}, {1000, 1, 9, 1009},
		{0, mostEach, 63, 66060288}, {mostBegin, 1, 63, 1073741887},
		{mostBegin, mostEach, 0, 1073741824}, {mostBegin, mostEach, 1, 1074790400}, {mostBegin, mostEach, 62, 1138753536}, {mostBegin, mostEach, 63, 1139802112},
		{math.MaxInt, math.MaxInt, 63, 1139802112}, {math.MinInt, math.MinInt, 63, 63},
	} {
		checkTime(t, release.New(x.begin, x.each), x.epoch, x.time)
	}
}

// 26.1: -1, unless epoch is 0 to MaxEpoch.
func TestTimeOfNone(t *testing.T) {
	for _, x := range [][2]int{{10, 5}, {0, 1}, {0, mostEach}, {mostBegin, 1}, {mostBegin, mostEach}, {-1, -1}} {
		g := release.New(x[0], x[1])
		for _, epoch := range append([]int{-1, 64, math.MinInt, math.MaxInt}, wrongEpochs()...) {
			checkTime(t, g, epoch, -1)
		}
		checkTime(t, g, 0, max(x[0], 0))
		checkTime(t, g, 63, max(x[0], 0)+63*max(x[1], 1))
	}
}

// 26.1: a Time hangs on no reading, and on no crash.
func TestTimeStays(t *testing.T) {
	x := newPair(t, 10, 5)
	for _, a := range append(ticks(0, 9, 10, 11, 325, 326, 3, -7, mostNow, math.MaxInt, math.MinInt), crash(), crash(), tick(20), crash()) {
		x.do(a)
		for epoch := range 64 {
			checkTime(t, x.g, epoch, 10+5*epoch)
		}
		checkTime(t, x.g, -1, -1)
		checkTime(t, x.g, 64, -1)
	}
}
