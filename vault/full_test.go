package vault_test

import (
	"strconv"
	"testing"

	"sandglass/api"
)

const (
	pruneSize = 8 + 4*4 + 2      // bytes of a prune's frame
	keySize   = 8 + 4*4 + 2 + 33 // of a key's
	putSize   = 8 + 4*4 + 2      // of a put's, beside name and body
	room      = 65536            // of the log
)

// fill does puts to the epoch, which has a key, with that many bytes of frames in all, and answers their names.
func (x pair) fill(t *testing.T, epoch, size int) []string {
	t.Helper()
	var names []string
	for i := 0; size > 0; i++ {
		name := "fill " + strconv.Itoa(10+i)
		one := min(size, 4000)
		if rest := size - one; rest > 0 && rest < putSize+len(name) {
			one -= putSize + len(name)
		}
		x.do(t, putCommand(epoch, name, mixed(one-putSize-len(name), uint64(i))), api.OK)
		names = append(names, name)
		size -= one
	}
	return names
}

// full is a vault whose log has that many bytes left, with keys of epochs 0 and 3, and a file of each: "f" and "g".
func full(t *testing.T, left int) pair {
	t.Helper()
	x := newPair(t, standard(1, 2))
	x.doAll(t, keyCommand(0, keyOf(7)), keyCommand(3, keyOf(5)), putCommand(0, "f", sealed(7, "of f")), putCommand(3, "g", "x"))
	x.fill(t, 3, room-left-len(plainFrames(x.p.records)))
	if got := room - len(plainFrames(x.p.records)); got != left {
		t.Fatalf("%d bytes are left; want %d", got, left)
	}
	return x
}

// 28.2, 19.1: a log with no byte left takes nothing; the catalogue is as it was, and tells its own refusals ahead of that.
func TestFull(t *testing.T) {
	t.Parallel()
	x := full(t, 0)
	for range 2 {
		x.do(t, pruneCommand(0), api.ErrFull)
		x.do(t, pruneCommand(3), api.ErrFull)
		x.do(t, pruneCommand(63), api.ErrFull)
		x.do(t, keyCommand(1, keyOf(5)), api.ErrFull)
		x.do(t, putCommand(1, "a", ""), api.ErrNone)
		x.do(t, putCommand(0, "a", ""), api.ErrFull)
		x.do(t, putCommand(0, "a", "x"), api.ErrFull)
		x.do(t, keyCommand(1, noKey), api.ErrPoint)
		x.do(t, keyCommand(0, keyOf(5)), api.ErrTwice)
		x.do(t, putCommand(0, "f", ""), api.ErrTwice)
		x.do(t, pruneCommand(64), api.ErrArg)
		x.do(t, api.Command{}, api.ErrArg)
	}
	x.takeAll(t, 0, polynomials()[:2]...)
	x.open(t, "f", "of f", api.OK)
	x.do(t, pruneCommand(0), api.ErrFull)
	x.open(t, "f", "of f", api.OK)
	x.sync()
	x.do(t, pruneCommand(0), api.ErrFull)
	x.open(t, "f", "of f", api.OK)
	x.crash(0)
	x.check(t)
	x.do(t, pruneCommand(0), api.ErrFull)
}

// 28.2: what just fits is taken, and what is a byte too long is not; smaller ones still fit behind it.
func TestFullEdges(t *testing.T) {
	t.Parallel()
	for left := range 2*pruneSize + 2 {
		x := full(t, left)
		x.do(t, putCommand(0, "a", zeros[:100]), api.ErrFull)
		if left < keySize {
			x.do(t, keyCommand(1, keyOf(5)), api.ErrFull)
		}
		if left >= putSize+1 && left%2 == 1 {
			body := zeros[:left-putSize-1]
			x.do(t, putCommand(0, "a", body+"x"), api.ErrFull)
			x.do(t, putCommand(0, "ab", body), api.ErrFull)
			x.do(t, putCommand(0, "a", body), api.OK)
			x.do(t, pruneCommand(0), api.ErrFull)
		}
		for rest := room - len(plainFrames(x.p.records)); rest >= pruneSize; rest -= pruneSize {
			x.do(t, pruneCommand(0), api.OK)
		}
		x.do(t, pruneCommand(1), api.ErrFull)
		x.sync()
		x.crash(0)
		x.check(t)
	}
	for _, left := range []int{keySize - 1, keySize, keySize + 1} {
		x := full(t, left)
		if left < keySize {
			x.do(t, keyCommand(1, keyOf(5)), api.ErrFull)
			x.do(t, putCommand(1, "a", ""), api.ErrNone)
			x.do(t, pruneCommand(0), api.OK)
		} else {
			x.do(t, keyCommand(1, keyOf(5)), api.OK)
			x.do(t, keyCommand(1, keyOf(5)), api.ErrTwice)
			x.do(t, putCommand(1, "a", ""), api.ErrFull)
		}
	}
}

// 28.2, 17.1: a record that is too long for any log is not taken either; one of 4096 bytes is.
func TestTooLongRecord(t *testing.T) {
	t.Parallel()
	x := newPair(t, standard(1, 2))
	x.do(t, putCommand(0, "a", zeros[:4096]), api.ErrNone)
	x.doAll(t, keyCommand(0, keyOf(7)))
	for length := 1; length <= 16; length++ {
		name := zeros[:length]
		most := 4096 - (4*4 + 2) - length
		for _, body := range []int{most + 1, most + 2, 4095, 4096} {
			x.do(t, putCommand(0, name, zeros[:body]), api.ErrFull)
		}
		x.do(t, putCommand(0, name, zeros[:4097]), api.ErrArg)
		if length%8 == 1 {
			x.do(t, putCommand(0, name, zeros[:most]), api.OK)
			x.do(t, putCommand(0, name, zeros[:4096]), api.ErrTwice)
		}
	}
	x.list(t, zeros[:1], zeros[:9])
	x.sync()
	x.crash(0)
	x.check(t)
	x.list(t, zeros[:1], zeros[:9])
}

// 28.2: prunes alone fill the log, too: 2520 of them, and 16 bytes are left.
func TestManyPrunes(t *testing.T) {
	t.Parallel()
	x := newPair(t, standard(1, 2))
	for i := range 2520 {
		if err := x.v.Do(pruneCommand(i % 2)); err != api.OK {
			t.Fatalf("prune %d: %d", i, err)
		}
		// What is refused leaves no record.
		if i%64 == 0 && (x.v.Do(pruneCommand(64)) != api.ErrArg || x.v.Do(keyCommand(0, keyOf(7))) != api.ErrPruned && i > 0) {
			t.Errorf("%d: it is taken", i)
		}
	}
	for _, c := range []api.Command{pruneCommand(5), keyCommand(2, keyOf(5)), pruneCommand(0)} {
		if err := x.v.Do(c); err != api.ErrFull {
			t.Errorf("kind %d, epoch %d: %d", c.Kind, c.Epoch, err)
		}
	}
	if err := x.v.Do(keyCommand(2, noKey)); err != api.ErrPoint {
		t.Errorf("a key behind a prune that was not taken: %d", err)
	}
	x.v.Crash(0)
	if err := x.v.Do(keyCommand(0, keyOf(7))); err != api.OK {
		t.Errorf("a key behind a crash: %d", err)
	}
}

// 28.2: behind a crash that took records there is room again.
func TestRoomBehindCrash(t *testing.T) {
	t.Parallel()
	x := newPair(t, standard(1, 2))
	x.doAll(t, keyCommand(0, keyOf(7)), putCommand(0, "f", sealed(7, "of f")))
	x.sync()
	x.fill(t, 0, room-len(plainFrames(x.p.records)))
	x.do(t, pruneCommand(0), api.ErrFull)
	x.crash(0)
	x.list(t, "f")
	names := x.fill(t, 0, room-len(plainFrames(x.p.records)))
	x.do(t, putCommand(0, "a", ""), api.ErrFull)
	x.list(t, append([]string{"f"}, names...)...)
	x.sync()
	x.crash(0)
	x.check(t)
	x.do(t, pruneCommand(0), api.ErrFull)
}

// 28.2: of a catalogue that is full, and a log that takes no more, it is ErrFull either way; the catalogue's other refusals come ahead.
func TestBothFull(t *testing.T) {
	t.Parallel()
	x := newPair(t, standard(1, 2))
	x.doAll(t, keyCommand(5, keyOf(7)))
	for i := range 32 {
		x.doAll(t, putCommand(5, "file "+strconv.Itoa(10+i), mixed(2000, uint64(i))))
	}
	x.do(t, putCommand(5, "new", zeros[:100]), api.ErrFull)
	for rest := room - len(plainFrames(x.p.records)); rest >= pruneSize; rest -= pruneSize {
		x.doAll(t, pruneCommand(0))
	}
	for range 2 {
		x.do(t, putCommand(5, "new", ""), api.ErrFull)
		x.do(t, putCommand(5, "file 10", zeros[:1000]), api.ErrTwice)
		x.do(t, putCommand(0, "file 10", ""), api.ErrPruned)
		x.do(t, putCommand(1, "new", ""), api.ErrNone)
		x.do(t, pruneCommand(5), api.ErrFull)
		x.do(t, keyCommand(1, keyOf(5)), api.ErrFull)
	}
	if l := x.v.List(); len(l) != 32 {
		t.Errorf("%q", l)
	}
}
