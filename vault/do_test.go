package vault_test

import (
	"slices"
	"strconv"
	"testing"

	"sandglass/api"
)

// 28.2, T2: what each command is answered, kind for kind, is the catalogue's.
func TestDo(t *testing.T) {
	t.Parallel()
	x := newPair(t, standard(1, 2))
	body := sealed(7, "abc")
	x.do(t, putCommand(0, "f", body), api.ErrNone)
	x.do(t, keyCommand(0, noKey), api.ErrPoint)
	x.do(t, keyCommand(0, keyOf(7)), api.OK)
	x.do(t, keyCommand(0, keyOf(7)), api.ErrTwice)
	x.do(t, keyCommand(0, noKey), api.ErrTwice)
	x.do(t, putCommand(0, "f", body), api.OK)
	x.do(t, putCommand(0, "f", ""), api.ErrTwice)
	x.do(t, putCommand(1, "f", ""), api.ErrNone)
	x.do(t, putCommand(63, "g", ""), api.ErrNone)
	x.do(t, keyCommand(63, keyOf(5)), api.OK)
	x.do(t, putCommand(63, "g", ""), api.OK)
	x.do(t, putCommand(0, "\x00\xff", zeros[:2000]), api.OK)
	x.list(t, "\x00\xff", "f", "g")
	x.do(t, pruneCommand(0), api.OK)
	x.list(t, "g")
	x.do(t, putCommand(0, "f", body), api.ErrPruned)
	x.do(t, keyCommand(0, keyOf(7)), api.ErrPruned)
	x.do(t, pruneCommand(0), api.OK)
	x.do(t, keyCommand(1, keyOf(5)), api.OK)
	x.do(t, putCommand(1, "f", ""), api.OK)
	x.do(t, pruneCommand(62), api.OK)
	x.do(t, pruneCommand(2), api.OK)
	x.do(t, keyCommand(62, keyOf(5)), api.ErrPruned)
	x.list(t, "g")
	x.do(t, pruneCommand(63), api.OK)
	x.list(t)
	x.do(t, keyCommand(63, keyOf(5)), api.ErrPruned)
	x.check(t)
}

// 28.2: commands that may not be are refused, whatever the catalogue has.
func TestDoNoCommand(t *testing.T) {
	t.Parallel()
	x := newPair(t, standard(1, 2))
	x.doAll(t, keyCommand(0, keyOf(7)), putCommand(0, "f", "x"))
	key := keyOf(7)
	wrong := []api.Command{
		{}, {Kind: 4}, {Kind: -1}, {Kind: 0, Body: key}, {Kind: 4, Epoch: 1, Body: key},
		{Kind: 1}, {Kind: 1, Epoch: 1, Body: key[:32]}, {Kind: 1, Epoch: 1, Body: key + "\x00"}, {Kind: 1, Epoch: 1, Name: "a", Body: key}, {Kind: 1, Epoch: -1, Body: key}, {Kind: 1, Epoch: 64, Body: key},
		{Kind: 2, Body: "x"}, {Kind: 2, Name: zeros[:17]}, {Kind: 2, Name: "a", Body: zeros[:4097]}, {Kind: 2, Epoch: -1, Name: "a"}, {Kind: 2, Epoch: 64, Name: "a"},
		{Kind: 3, Name: "a"}, {Kind: 3, Body: "x"}, {Kind: 3, Epoch: -1}, {Kind: 3, Epoch: 64},
	}
	for _, k := range farInts() {
		wrong = append(wrong, api.Command{Kind: k, Epoch: 1, Body: key}, keyCommand(k, key), putCommand(k, "a", "x"), pruneCommand(k))
	}
	for _, c := range wrong {
		x.do(t, c, api.ErrArg)
	}
	x.sync()
	x.crash(0)
	x.check(t)
	x.list(t, "f")
}

// 28.2: the record of each command that is done is appended, and that of no other one: what is there behind a crash is just what was done, in its order.
func TestDoRecords(t *testing.T) {
	t.Parallel()
	rows := []struct {
		c    api.Command
		want api.Errno
	}{
		{putCommand(0, "a", "1"), api.ErrNone}, {keyCommand(0, keyOf(7)), api.OK}, {keyCommand(0, keyOf(5)), api.ErrTwice}, {putCommand(0, "a", "2"), api.OK},
		{putCommand(0, "a", "3"), api.ErrTwice}, {keyCommand(1, noKey), api.ErrPoint}, {putCommand(1, "b", "4"), api.ErrNone}, {keyCommand(1, keyOf(5)), api.OK},
		{putCommand(1, "b", "5"), api.OK}, {api.Command{Kind: 9}, api.ErrArg}, {pruneCommand(0), api.OK}, {putCommand(1, "a", "6"), api.OK}, {pruneCommand(0), api.OK},
		{putCommand(0, "c", "7"), api.ErrPruned}, {pruneCommand(64), api.ErrArg}, {putCommand(1, "c", sealed(5, "new")), api.OK},
	}
	for end := range len(rows) + 1 {
		for sure := range end + 1 {
			x := newPair(t, standard(1, 2))
			for i, row := range rows[:end] {
				if i == sure {
					x.sync()
				}
				x.do(t, row.c, row.want)
			}
			if end == sure {
				x.sync()
			}
			x.crash(0)
			x.check(t)
			want := newPair(t, standard(1, 2))
			for _, row := range rows[:sure] {
				want.do(t, row.c, row.want)
			}
			x.list(t, want.v.List()...)
			// Another crash finds the same.
			x.crash(0)
			x.check(t)
		}
	}
}

// 28.2, 24.1: 32 files, and no more.
func TestDoMostFiles(t *testing.T) {
	t.Parallel()
	x := newPair(t, standard(1))
	x.doAll(t, keyCommand(0, keyOf(5)), keyCommand(1, keyOf(1)))
	for i := range 32 {
		x.doAll(t, putCommand(i%2, "file "+strconv.Itoa(i), "x"))
	}
	x.do(t, putCommand(0, "new", "x"), api.ErrFull)
	x.do(t, putCommand(0, "file 7", "x"), api.ErrTwice)
	x.do(t, putCommand(2, "new", "x"), api.ErrNone)
	x.sync()
	x.crash(0)
	x.check(t)
	x.do(t, putCommand(1, "new", "x"), api.ErrFull)
	x.do(t, pruneCommand(0), api.OK)
	x.do(t, putCommand(1, "new", "x"), api.OK)
	if l := x.v.List(); len(l) != 17 || !slices.IsSorted(l) {
		t.Errorf("%q", l)
	}
}
