package wal_test

import (
	"math/rand"
	"slices"
	"testing"
	"unsafe"

	"sandglass/api"
	"sandglass/wal"
)

// shared tells whether two texts have a byte of memory in common.
func shared(a, b string) bool {
	if a == "" || b == "" {
		return false
	}
	from, other := uintptr(unsafe.Pointer(unsafe.StringData(a))), uintptr(unsafe.Pointer(unsafe.StringData(b)))
	return from < other+uintptr(len(b)) && other < from+uintptr(len(a))
}

// R4: records that were handed out share no memory with what was appended, nor with one another.
func TestNewMemory(t *testing.T) {
	given := []string{mixed(2, 1), mixed(100, 2), mixed(100, 2), mixed(4096, 3)}
	w := made(t, given[:1], given[1:])
	l := slices.Concat(given, w.All(), w.All())
	w.Crash(7)
	l = slices.Concat(l, w.All())
	for i := range l {
		for k := range i {
			if shared(l[i], l[k]) {
				t.Errorf("%d and %d share memory", k, i)
			}
		}
	}
}

// R4: records that were handed out stay when the log goes on and is torn, and the log when they are changed.
func TestAnswersStay(t *testing.T) {
	all := []string{framed(50, 1), framed(60, 2), framed(70, 3)}
	w := made(t, all[:1], all[1:])
	first := w.All()
	checkAppend(t, w, "more", api.OK)
	second := w.All()
	w.Crash(3)
	third := w.All()
	checkAppend(t, w, "other", api.OK)
	w.Sync()
	if !slices.Equal(first, all) || !slices.Equal(second, append(all[:3:3], "more")) || !slices.Equal(third, all[:2]) {
		t.Error("records that were handed out became other ones")
	}
	want := []string{all[0], all[1], "other"}
	changed := w.All()
	changed[0], changed[1] = "x", changed[2]
	changed = append(changed[:1], "y", "z")
	checkWal(t, w, want, 3)
	w.Crash(0)
	checkWal(t, w, want, 3)
}

// R4: the room behind the end of a list that was handed out is no other one's.
func TestBehindTheEnd(t *testing.T) {
	w := made(t, nil, []string{"a", "b", "c"})
	one, two := w.All(), w.All()
	_ = append(one[:2], "x")
	_ = append(one, "y", "z")
	checkAppend(t, w, "d", api.OK)
	if !slices.Equal(two, []string{"a", "b", "c"}) {
		t.Errorf("another answer became %q", two)
	}
	checkWal(t, w, []string{"a", "b", "c", "d"}, 0)
}

// R4: what was appended is not changed by the log, and not kept: it may be written over behind the call.
func TestNothingKept(t *testing.T) {
	s := framed(150, 1)
	for _, keep := range []uint64{0, 1, 2, 3, 5, 7} {
		b := []byte(s + "behind")
		w := wal.New()
		checkAppend(t, w, unsafe.String(&b[0], len(s)), api.OK)
		w.Crash(keep)
		if string(b) != s+"behind" {
			t.Errorf("keep %d: what was appended became %q", keep, b)
		}
	}
	b := []byte(s)
	w := made(t, []string{"ahead"}, nil)
	checkAppend(t, w, unsafe.String(&b[0], len(b)), api.OK)
	clear(b)
	checkWal(t, w, []string{"ahead", s}, 1)
	w.Sync()
	w.Crash(0)
	checkWal(t, w, []string{"ahead", s}, 2)
}

// 19.1: two logs share nothing, also such that were appended the same texts.
func TestTwoLogs(t *testing.T) {
	all := []string{framed(64, 1), framed(64, 2)}
	one, two := wal.New(), wal.New()
	if one == two {
		t.Fatal("the same log twice")
	}
	appendAll(t, one, all)
	checkWal(t, two, nil, 0)
	appendAll(t, two, all)
	one.Sync()
	checkWal(t, two, all, 0)
	two.Crash(1)
	checkWal(t, one, all, 2)
	checkWal(t, two, all[:1], 1)
	// One log's records are appended to another one, and stay there when their own log goes on.
	three := made(t, nil, one.All())
	checkAppend(t, one, "more", api.OK)
	one.Crash(0)
	checkWal(t, three, all, 0)
	three.Crash(0)
	checkWal(t, three, nil, 0)
	checkWal(t, one, all, 2)
	checkWal(t, wal.New(), nil, 0)
}

// R5: the same deeds have the same answers again, and being asked changes nothing.
func TestSameAgain(t *testing.T) {
	for seed := range int64(8) {
		r, again := rand.New(rand.NewSource(seed)), rand.New(rand.NewSource(seed))
		one, two := wal.New(), wal.New()
		var p, q plainWal
		for range 40 {
			doAny(t, r, one, &p)
			doAny(t, again, two, &q)
			records, sure := one.All(), one.Sure()
			checkWal(t, two, records, sure)
			checkWal(t, two, records, sure)
			checkWal(t, one, records, sure)
		}
	}
}
