package release_test

import (
	"math"
	"testing"

	"sandglass/release"
)

// gates are some, with begin and each as they count.
func gates() [][2]int {
	return [][2]int{{10, 5}, {0, 1}, {0, 2}, {1, 1}, {2, 3}, {0, mostEach}, {100, 1}, {mostBegin, 1}, {mostBegin, mostEach}, {mostBegin - 1, mostEach - 1}}
}

// 26.1: open is an epoch whose Time was read, or more.
func TestOpenAtTime(t *testing.T) {
	for _, x := range gates() {
		begin, each := x[0], x[1]
		for epoch := range 64 {
			time := begin + epoch*each
			below := newPair(t, begin, each, tick(time-1))
			last := epoch - 1
			if time == 0 {
				last = 0 // -1 counts as 0, which is the Time
			}
			checkLast(t, below.g, last)
			at := newPair(t, begin, each, tick(time))
			checkLast(t, at.g, epoch)
			above := newPair(t, begin, each, tick(time+1))
			last = epoch
			if each == 1 {
				last = epoch + 1
			}
			checkLast(t, above.g, last)
			// The same one behind the other, on one gate.
			below.do(tick(time))
			checkLast(t, below.g, epoch)
			below.do(tick(time - 1))
			checkLast(t, below.g, epoch)
		}
	}
}

// 26.1: begin 10, each 5: epoch 2 opens at 20.
func TestExample(t *testing.T) {
	g := release.New(10, 5)
	checkTime(t, g, 2, 20)
	checkOpen(t, g, 2, false)
	g.Tick(19)
	checkOpen(t, g, 2, false)
	g.Tick(20)
	checkOpen(t, g, 2, true)
	checkOpen(t, g, 3, false)
}

// 26.1: what is open stays open when the clock goes back, however far.
func TestOpenStays(t *testing.T) {
	for epoch := range 64 {
		for _, back := range []int{math.MinInt, -1, 0, 1, 9, 10, 14, 9 + 5*epoch} {
			x := newPair(t, 10, 5, tick(10+5*epoch))
			for range 3 {
				x.do(tick(back))
				checkLast(t, x.g, epoch)
				checkNow(t, x.g, max(back, 0))
			}
			x.do(tick(10 + 5*epoch + 4))
			checkLast(t, x.g, epoch)
			x.do(tick(10 + 5*epoch + 5))
			checkLast(t, x.g, epoch+1)
		}
	}
}

// 26.1: tick by tick, each epoch opens at its Time, one behind the other, and none else.
func TestOpenEach(t *testing.T) {
	for _, x := range [][2]int{{0, 1}, {3, 2}, {10, 5}, {1, 7}} {
		p := newPair(t, x[0], x[1])
		last := -1
		for now := range x[0] + 64*x[1] + 3 {
			p.do(tick(now))
			if last < 63 && now == x[0]+(last+1)*x[1] {
				last++
			}
			checkLast(t, p.g, last)
		}
		if last != 63 {
			t.Errorf("%d is the last", last)
		}
	}
}

// 26.1: an epoch that is none is not open, whatever was read.
func TestOpenOfNone(t *testing.T) {
	for _, x := range gates() {
		p := newPair(t, x[0], x[1])
		for _, a := range append(ticks(-1, 0, x[0], mostNow, math.MaxInt, 0), crash(), tick(math.MaxInt)) {
			for _, epoch := range append([]int{-1, 64, math.MinInt, math.MaxInt}, wrongEpochs()...) {
				checkOpen(t, p.g, epoch, false)
			}
			p.do(a)
		}
		checkLast(t, p.g, 63)
	}
}

// 26.1: of begin 0 the first epoch is opened by a reading of 0, but not without one.
func TestOpenAtNought(t *testing.T) {
	for _, begin := range []int{0, -1, math.MinInt} {
		for _, now := range []int{0, -1, math.MinInt} {
			x := newPair(t, begin, 5)
			checkLast(t, x.g, -1)
			checkNow(t, x.g, 0)
			x.do(tick(now))
			checkLast(t, x.g, 0)
			checkNow(t, x.g, 0)
			x.do(tick(4))
			checkLast(t, x.g, 0)
			x.do(tick(5))
			checkLast(t, x.g, 1)
		}
	}
}

// 26.1: to be asked, in whatever order and how often, opens nothing and shuts nothing.
func TestOpenAsked(t *testing.T) {
	x := newPair(t, 10, 5, tick(20))
	for _, epoch := range []int{63, 3, 2, 3, 0, -1, 2, 64, 1, 63} {
		for range 3 {
			checkOpen(t, x.g, epoch, epoch >= 0 && epoch <= 2)
			checkTime(t, x.g, epoch, x.p.time(epoch))
			checkNow(t, x.g, 20)
		}
	}
	checkLast(t, x.g, 2)
}
