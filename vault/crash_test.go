package vault_test

import (
	"hash/crc32"
	"math"
	"slices"
	"strconv"
	"strings"
	"testing"

	"sandglass/api"
)

// someKeeps are each bit alone, the lowest bits, all but the lowest, all but one, and bits with gaps.
func someKeeps() []uint64 {
	l := []uint64{0, math.MaxUint64, 5, 10, 0x5555555555555555, 0xaaaaaaaaaaaaaaaa, 0x8000000000000001, 0xf0f0, 0x0123456789abcdef}
	for k := range 64 {
		bit := uint64(1) << k
		l = append(l, bit, bit-1, -bit, ^bit)
	}
	return l
}

// some are commands that are all done one behind the other, of records of many lengths.
func some() []api.Command {
	return []api.Command{
		keyCommand(0, keyOf(7)), putCommand(0, "a", mixed(100, 1)), putCommand(0, "b", ""), keyCommand(1, keyOf(5)), putCommand(1, "c", mixed(700, 2)), pruneCommand(0),
		putCommand(1, "a", sealed(5, "again")), keyCommand(9, keyOf(2)), putCommand(9, "d", "x"), putCommand(1, zeros[:16], mixed(40, 3)), pruneCommand(0), putCommand(9, "e", mixed(2500, 4)), pruneCommand(1), putCommand(9, "a", mixed(64, 5)),
	}
}

// 28.2, T4: the catalogue behind a crash is that of the records that are there, whatever keep is, and however many were synced.
func TestCrashKeeps(t *testing.T) {
	t.Parallel()
	for sure := range len(some()) + 1 {
		for i, keep := range someKeeps() {
			// All of them where most is at stake, and of each other row some.
			if sure > 0 && i > 1 && i%23 != sure {
				continue
			}
			x := newPair(t, setting{n: 1, me: 1, deals: dealsOf(1, [][][]api.Num{{{{5}}, {{1}}}}), chosen: []int{1}})
			x.doAll(t, some()[:sure]...)
			x.sync()
			x.doAll(t, some()[sure:]...)
			x.crash(keep)
			x.check(t)
			if len(x.p.records) < sure || i == 1 && len(x.p.records) != len(some()) {
				t.Errorf("%d sure, keep %#x: %d records", sure, keep, len(x.p.records))
			}
			x.goesOn(t)
		}
	}
}

// goesOn holds that a vault behind a crash takes commands as the plain one does, and that they are there behind the next one, if they are synced.
func (x pair) goesOn(t *testing.T) {
	t.Helper()
	for _, c := range append(some(), pruneCommand(9), keyCommand(10, keyOf(3)), putCommand(10, "last", "")) {
		if got, want := x.v.Do(c), x.p.do(c); got != want {
			t.Errorf("kind %d, epoch %d, %q: %d; want %d", c.Kind, c.Epoch, short(c.Name), got, want)
		}
	}
	x.check(t)
	x.sync()
	x.crash(0)
	x.check(t)
	x.list(t, "last")
}

// 28.2, 19.2: rows of commands, syncs and crashes, one behind the other.
func TestCrashRows(t *testing.T) {
	t.Parallel()
	keeps := someKeeps()
	for start := range 40 {
		x := newPair(t, standard(1))
		for i := range 24 {
			step := start*7 + i*5
			c := some()[step%len(some())]
			if c.Kind == 3 && step%4 != 0 {
				c = putCommand(9, "step "+strconv.Itoa(i), mixed(step%300, uint64(step)))
			}
			if got, want := x.v.Do(c), x.p.do(c); got != want {
				t.Fatalf("start %d, step %d: %d; want %d", start, i, got, want)
			}
			if step%6 == 0 {
				x.sync()
			}
			if step%8 == 3 {
				x.crash(keeps[step*31%len(keeps)])
				x.check(t)
			}
		}
		x.check(t)
		x.crash(0)
		x.check(t)
	}
}

// 28.2, T4: without a sync a crash that keeps nothing takes all, and one that keeps all takes nothing: up to 64 sectors.
func TestCrashAllOrNothing(t *testing.T) {
	x := newPair(t, standard(1, 2))
	x.doAll(t, keyCommand(0, keyOf(7)), putCommand(0, "f", zeros[:30]))
	x.crash(top)
	x.list(t, "f")
	// The prune's frame lies in two sectors.
	for _, keep := range []uint64{0, 1, 2, ^uint64(1), ^uint64(2), ^uint64(3)} {
		x.doAll(t, pruneCommand(0))
		x.crash(keep)
		x.list(t, "f")
		x.do(t, keyCommand(0, keyOf(7)), api.ErrTwice)
	}
	x.doAll(t, pruneCommand(0))
	x.crash(3)
	x.list(t)
	x.do(t, keyCommand(0, keyOf(7)), api.ErrPruned)

	x = newPair(t, standard(1, 2))
	x.doAll(t, keyCommand(0, keyOf(7)), putCommand(0, "a", zeros[:3000]), putCommand(0, "b", zeros[:900]), putCommand(0, "c", zeros[:900]))
	x.crash(top)
	x.list(t, "a", "b")
}

// 28.2: a crash unprunes what was pruned by a record that is gone, and the epoch goes on.
func TestCrashUnprunes(t *testing.T) {
	x := newPair(t, standard(1, 2))
	x.tick(15)
	x.doAll(t, keyCommand(0, keyOf(7)), putCommand(0, "f", sealed(7, "of f")))
	x.sync()
	x.doAll(t, pruneCommand(5))
	x.emitNone(t, 0, api.ErrPruned)
	x.emitNone(t, 1, api.ErrPruned)
	x.crash(0)
	x.emit(t, 0, 11, 20)
	x.emit(t, 1, 3, 16)
	x.takeAll(t, 0, polynomials()[:2]...)
	x.open(t, "f", "of f", api.OK)
	x.doAll(t, pruneCommand(0))
	x.sync()
	x.crash(0)
	x.emitNone(t, 0, api.ErrPruned)
	x.emit(t, 1, 3, 16)
	x.list(t)
}

// 28.2: behind a crash the gatherings have nothing, of no epoch, and take the same shares again, and others.
func TestCrashGatherings(t *testing.T) {
	t.Parallel()
	dealers := polynomials()
	x := newPair(t, standard(1, 3))
	x.doAll(t, keyCommand(0, keyOf(12)), keyCommand(1, keyOf(11)), putCommand(0, "f", sealed(12, "of f")), putCommand(1, "g", sealed(11, "of g")))
	x.sync()
	for _, keep := range []uint64{0, 1, top} {
		x.takeAll(t, 0, dealers[0], dealers[2])
		x.take(t, 1, 0, shareAt(dealers[0][1], 1), true)
		x.take(t, 1, 1, shareAt(dealers[2][1], 1), true)
		x.open(t, "f", "of f", api.OK)
		x.open(t, "g", "", api.ErrShare)
		x.crash(keep)
		x.open(t, "f", "", api.ErrShare)
		x.take(t, 1, 0, shareAt(dealers[0][1], 2), true)
		x.take(t, 1, 1, shareAt(dealers[2][1], 2), true)
		x.open(t, "g", "", api.ErrShare)
		x.take(t, 1, 0, shareAt(dealers[0][1], 1), true)
		x.take(t, 1, 1, shareAt(dealers[2][1], 1), true)
		x.take(t, 1, 1, shareAt(dealers[2][1], 3), false)
		x.open(t, "g", "of g", api.OK)
		x.open(t, "f", "", api.ErrShare)
		x.take(t, 0, 0, shareAt(dealers[2][0], 1), false)
		x.crash(keep)
		x.open(t, "f", "", api.ErrShare)
		x.open(t, "g", "", api.ErrShare)
	}
}

// 28.2: a sync alone changes nothing that is told.
func TestSync(t *testing.T) {
	x := newPair(t, standard(1, 2))
	x.sync()
	x.check(t)
	x.takeAll(t, 1, polynomials()[:2]...)
	for _, c := range some() {
		x.do(t, c, api.OK)
		x.sync()
		x.sync()
		x.check(t)
	}
	x.tick(10)
	x.sync()
	x.check(t)
	for _, keep := range []uint64{0, 5, top} {
		x.crash(keep)
		x.check(t)
		x.list(t, "a", "d", "e")
	}
}

// unseen is n bytes of which no sum sees whether they are there or 0s: the last four are the rest of the ones ahead of them.
func unseen(s string, n int) string {
	s += mixed(n-4-len(s), 11)
	// The library turns the bits of what it begins with, and of what it tells.
	rest := ^crc32.Update(top32, crc32.MakeTable(0x82F63B78), []byte(s))
	return s + string([]byte{byte(rest), byte(rest >> 8), byte(rest >> 16), byte(rest >> 24)})
}

const top32 = math.MaxUint32

// padded is a row of commands whose frames have that many bytes.
func padded(size int) []api.Command {
	l := []api.Command{keyCommand(0, keyOf(7))}
	left := size - keySize - putSize - len("pad")
	return append(l, putCommand(0, "pad", mixed(left, 8)))
}

// 28.2: a record of which a sector became 0s, but whose sum says that it is whole, is there: of a file whose body has these 0s.
func TestCrashAlteredBody(t *testing.T) {
	x := newPair(t, standard(1, 2))
	body := sealed(7, "of f")
	head := putSize + len("f") + len(body)
	x.doAll(t, padded(3*64+64-head)...)
	// The body is whole up to the end of a sector; the one behind it is not seen.
	x.doAll(t, putCommand(0, "f", body+unseen("", 64)+"rest"), putCommand(0, "g", body))
	x.crash(^uint64(1 << 4))
	x.list(t, "f", "g", "pad")
	if f, _ := x.p.get("f"); f.Body != body+zeros[:64]+"rest" {
		t.Fatalf("the plain one has %q", f.Body)
	}
	x.takeAll(t, 0, polynomials()[:2]...)
	x.open(t, "f", "", api.ErrSize)
	x.open(t, "g", "of f", api.OK)
	x.check(t)
	x.goesOn(t)
}

// 28.2: a record that is there, but that of no command, does nothing; the ones behind it do.
func TestCrashNoCommand(t *testing.T) {
	t.Parallel()
	record := recordOf(putCommand(0, "f", mixed(200, 1)))
	whole := unseen(record[:30], 64) + record[64:]
	c := commandOf(whole)
	if c.Kind != 2 || c.Name != "f" {
		t.Fatal("no put")
	}
	x := newPair(t, standard(1, 2))
	// The frame's length and sum are the last bytes of a sector, and the record begins with the next one.
	x.doAll(t, padded(4*64-8)...)
	x.doAll(t, c, putCommand(0, "g", sealed(7, "of g")), keyCommand(2, keyOf(3)))
	x.crash(^uint64(1 << 4))
	if len(x.p.records) != 5 || len(x.p.done) != 4 || !strings.HasPrefix(x.p.records[2], zeros[:64]) {
		t.Fatalf("%d records, %d done", len(x.p.records), len(x.p.done))
	}
	x.list(t, "g", "pad")
	x.do(t, keyCommand(2, keyOf(3)), api.ErrTwice)
	x.do(t, c, api.OK)
	x.do(t, c, api.ErrTwice)
	// It is passed over as well when the log is gone over for want of room.
	x.do(t, putCommand(0, "h", zeros[:4096]), api.ErrFull)
	x.list(t, "f", "g", "pad")
	x.check(t)
	x.goesOn(t)
	if !slices.Contains(x.p.records, zeros[:64]+whole[64:]) {
		t.Error("the record is gone")
	}
}
