package ledger_test

import (
	"math/rand"
	"slices"
	"testing"

	"sandglass/api"
)

// 24.1: ahead of its epoch's key a file is refused, behind it it is there; other epochs' keys are no use.
func TestPutNeedsKey(t *testing.T) {
	for epoch := range 64 {
		x := newPair(t)
		x.do(t, putCommand(epoch, "a", "x"), api.ErrNone)
		for other := range 64 {
			if other != epoch {
				x.do(t, keyCommand(other, keyA), api.OK)
			}
		}
		x.do(t, putCommand(epoch, "a", "x"), api.ErrNone)
		checkNoFile(t, x.l, "a")
		x.do(t, keyCommand(epoch, keyB), api.OK)
		x.do(t, putCommand(epoch, "a", "x"), api.OK)
		checkGet(t, x.l, "a", api.File{Epoch: epoch, Name: "a", Body: "x"}, api.OK)
		checkList(t, x.l, "a")
		x.check(t)
	}
}

// 24.1: a wrong key is none.
func TestPutBehindWrongKey(t *testing.T) {
	x := newPair(t)
	x.do(t, keyCommand(1, noKey), api.ErrPoint)
	x.do(t, putCommand(1, "a", "x"), api.ErrNone)
	x.do(t, keyCommand(1, keyA[:32]), api.ErrArg)
	x.do(t, putCommand(1, "a", "x"), api.ErrNone)
	checkList(t, x.l)
}

// 24.1: a name that is there is refused, of whichever epoch, with whichever body, and the file stays as it is.
func TestPutTwice(t *testing.T) {
	long := mixed(16, 1)
	for _, name := range []string{"a", "\x00", "\xff", "ab", long, zeros[:16]} {
		x := newPair(t, keyCommand(0, keyA), keyCommand(1, keyB), keyCommand(63, keyA), putCommand(1, name, "body"))
		for range 2 {
			for _, epoch := range []int{0, 1, 63} {
				for _, body := range []string{"body", "", "other", mixed(4096, 2)} {
					x.do(t, putCommand(epoch, name, body), api.ErrTwice)
				}
			}
			checkGet(t, x.l, name, api.File{Epoch: 1, Name: name, Body: "body"}, api.OK)
			checkList(t, x.l, name)
		}
		// The epoch's key is asked first.
		x.do(t, putCommand(2, name, "body"), api.ErrNone)
		// A name that differs in anything is another one.
		for i := range len(name) {
			other := []byte(name)
			other[i] ^= 32
			x.do(t, putCommand(0, string(other), "body"), api.OK)
		}
		if len(name) < 16 {
			x.do(t, putCommand(1, name+"\x00", "body"), api.OK)
			x.do(t, putCommand(1, "\x00"+name+"z", "body"), api.OK)
		}
		x.check(t)
	}
}

// 24.1: the same body may be of many files, and many files of an epoch.
func TestSameBody(t *testing.T) {
	body := mixed(100, 3)
	x := newPair(t, keyCommand(9, keyA))
	for i := range 32 {
		x.do(t, putCommand(9, string([]byte{byte(i)}), body), api.OK)
		x.check(t)
	}
}

// 24.1: 31 files leave room for one, 32 for none, whatever epochs they are of.
func TestFull(t *testing.T) {
	for _, epochs := range [][]int{{0}, {63}, {0, 1, 62, 63}, {5, 6, 7}} {
		l := fullOf(epochs...)
		x := newPair(t, l[:len(l)-1]...)
		if got := len(x.l.List()); got != 31 {
			t.Fatalf("%d files", got)
		}
		x.check(t)
		x.do(t, l[len(l)-1], api.OK)
		x.check(t)
		for range 2 {
			for _, epoch := range epochs {
				for _, name := range []string{"new", "\x00", "\xff", mixed(16, 1)} {
					x.do(t, putCommand(epoch, name, "x"), api.ErrFull)
				}
			}
		}
		// Keys are taken still.
		x.do(t, keyCommand(30, keyC), api.OK)
		x.do(t, putCommand(30, "new", ""), api.ErrFull)
		if got := len(x.l.List()); got != 32 {
			t.Errorf("%d files", got)
		}
		x.check(t)
	}
}

// 24.1: where there are MaxFiles, a name that is there, a lacking key and a pruned epoch are told first.
func TestFirstOfErrors(t *testing.T) {
	x := newPair(t, append(fullOf(5, 6), pruneCommand(3))...)
	there := x.l.List()
	for _, name := range there {
		x.do(t, putCommand(5, name, "x"), api.ErrTwice)
		x.do(t, putCommand(6, name, ""), api.ErrTwice)
		x.do(t, putCommand(7, name, "x"), api.ErrNone)
		x.do(t, putCommand(3, name, "x"), api.ErrPruned)
		x.do(t, putCommand(0, name, "x"), api.ErrPruned)
	}
	for _, name := range []string{"new", "f"} {
		x.do(t, putCommand(5, name, "x"), api.ErrFull)
		x.do(t, putCommand(4, name, "x"), api.ErrNone)
		x.do(t, putCommand(63, name, "x"), api.ErrNone)
		x.do(t, putCommand(3, name, "x"), api.ErrPruned)
	}
	checkList(t, x.l, there...)
	x.check(t)
}

// 24.1: up to the last epoch that is pruned no file is taken; beyond it, of epochs with a key.
func TestPutOfPruned(t *testing.T) {
	for last := -1; last <= 63; last++ {
		x := newPair(t)
		for epoch := range 64 {
			x.doAll(t, keyCommand(epoch, keyA))
		}
		if last >= 0 {
			x.doAll(t, pruneCommand(last))
		}
		for epoch := range 64 {
			name := string([]byte{'n', byte(epoch)})
			switch {
			case epoch <= last:
				x.do(t, putCommand(epoch, name, "x"), api.ErrPruned)
			case epoch <= last+32:
				x.do(t, putCommand(epoch, name, "x"), api.OK)
				x.do(t, putCommand(epoch, name, "x"), api.ErrTwice)
			default:
				x.do(t, putCommand(epoch, name, "x"), api.ErrFull)
			}
		}
		x.check(t)
	}
}

// 24.1: a file is told as it was put; what was never put, and what another name begins with, is not there.
func TestGet(t *testing.T) {
	x := newPair(t, keyCommand(2, keyA), keyCommand(3, keyB))
	files := []api.File{
		{Epoch: 2, Name: "a", Body: ""}, {Epoch: 3, Name: "ab", Body: "x"}, {Epoch: 2, Name: "abc", Body: "\x00"}, {Epoch: 3, Name: "\x00", Body: "a"},
		{Epoch: 3, Name: "\xff", Body: mixed(4096, 1)}, {Epoch: 2, Name: "\xff\xff", Body: mixed(33, 2)}, {Epoch: 2, Name: zeros[:16], Body: zeros[:4096]}, {Epoch: 3, Name: "é\n", Body: "é"},
	}
	for i, f := range files {
		checkNoFile(t, x.l, f.Name)
		x.do(t, putCommand(f.Epoch, f.Name, f.Body), api.OK)
		for _, g := range files[:i+1] {
			checkGet(t, x.l, g.Name, g, api.OK)
		}
	}
	checkNoFile(t, x.l, "", "b", "A", "abcd", "bc", "\x00\x00", zeros[:15], zeros[:17], "\xff\xff\xff", "\xfe", "a\x00", " a", "é", mixed(4096, 1), zeros)
	checkList(t, x.l, "\x00", zeros[:16], "a", "ab", "abc", "é\n", "\xff", "\xff\xff")
}

// 24.1: names rise by their bytes, in whichever order they came: each row of six, the one the beginning of another one.
func TestListRises(t *testing.T) {
	names := []string{"\x00", "\x00\xff", "a", "a\x00", "ab", "\xff"}
	rows := 0
	var each func(row []string, left []string)
	each = func(row, left []string) {
		if len(left) == 0 {
			rows++
			x := newPair(t, keyCommand(1, keyA))
			for i, name := range row {
				x.l.Do(putCommand(1, name, "x"))
				checkList(t, x.l, slices.Sorted(slices.Values(row[:i+1]))...)
			}
			checkList(t, x.l, names...)
			return
		}
		for i := range left {
			each(append(row[:len(row):len(row)], left[i]), slices.Concat(left[:i], left[i+1:]))
		}
	}
	each(nil, names)
	if rows != 720 {
		t.Errorf("%d rows", rows)
	}
}

// 24.1: names of all bytes, a catalogue of 32 at a time, in a random order.
func TestListOfAllBytes(t *testing.T) {
	r := rand.New(rand.NewSource(24))
	for range 4 {
		order := r.Perm(256)
		for from := 0; from < 256; from += 32 {
			x := newPair(t, keyCommand(1, keyA))
			var names []string
			for _, v := range order[from : from+32] {
				name := string([]byte{byte(v)})
				if r.Intn(2) == 0 {
					name += mixed(r.Intn(16), uint64(v))
				}
				names = append(names, name)
				x.do(t, putCommand(1, name, name), api.OK)
			}
			slices.Sort(names)
			checkList(t, x.l, names...)
			x.check(t)
		}
	}
}
