package wal_test

import (
	"slices"
	"testing"

	"sandglass/api"
	"sandglass/wal"
)

// 19.1: a new log has no records, and none is sure.
func TestNew(t *testing.T) {
	w := wal.New()
	if w == nil {
		t.Fatal("no log")
	}
	checkWal(t, w, nil, 0)
}

// 19.1: what is appended is the last record, and is not sure by that.
func TestAppend(t *testing.T) {
	w := wal.New()
	var all []string
	for i, n := range []int{0, 1, 0, 2, 7, 8, 9, 55, 56, 57, 64, 4095, 4096, 1000, 0} {
		s := mixed(n, uint64(i))
		checkAppend(t, w, s, api.OK)
		all = append(all, s)
		checkWal(t, w, all, 0)
	}
	for _, s := range []string{"\x00", zeros[:8], zeros[:100], zeros[:4096], "\xff\xff\xff\xff", "é\n", "a", "a"} {
		checkAppend(t, w, s, api.OK)
		all = append(all, s)
		checkWal(t, w, all, 0)
	}
}

// 19.1: of a text that is too long for a record Frame's error is told, and nothing is done.
func TestTooLong(t *testing.T) {
	for _, sure := range []int{0, 1, 2} {
		all := []string{"one", "two"}
		w := made(t, all[:sure], all[sure:])
		for _, n := range []int{4097, 4098, 8192, 65528, 65536, 65537, 1 << 20} {
			checkAppend(t, w, string(make([]byte, n)), api.ErrSize)
			checkWal(t, w, all, sure)
		}
		checkAppend(t, w, zeros[:4096], api.OK)
		checkWal(t, w, append(all, zeros[:4096]), sure)
	}
}

// 19.1: records that look like frames are records as others.
func TestFramesAsRecords(t *testing.T) {
	inner := plainFrame("inner")
	twice := plainFrame(inner)
	all := []string{inner, twice, inner + twice, twice[:len(twice)-1], plainFrame(""), fourBytes(4096), "\xff\xff\xff\xff", plainFrames([]string{"a", "b", "c"})}
	w := made(t, nil, all)
	checkWal(t, w, all, 0)
	w.Sync()
	w.Crash(0)
	checkWal(t, w, all, len(all))
}

// 19.1: a log takes as many records as their frames have room on the disk; of one more nothing is done, and a smaller one still goes in.
func TestFull(t *testing.T) {
	var all []string
	for i := range 15 {
		all = append(all, mixed(4096, uint64(i)))
	}
	for _, sure := range []int{0, 1, 14, 15} {
		w := made(t, all[:sure], all[sure:])
		// 15 frames of 4104 bytes leave 3976.
		for _, n := range []int{4096, 4095, 3970, 3969} {
			checkAppend(t, w, zeros[:n], api.ErrFull)
			checkWal(t, w, all, sure)
		}
		more := append(slices.Clone(all), mixed(3959, 20))
		checkAppend(t, w, more[15], api.OK)
		checkWal(t, w, more, sure)
		// 9 bytes are left.
		for _, n := range []int{2, 3, 9, 10, 4096} {
			checkAppend(t, w, zeros[:n], api.ErrFull)
			checkWal(t, w, more, sure)
		}
		checkAppend(t, w, "z", api.OK)
		more = append(more, "z")
		checkWal(t, w, more, sure)
		for _, n := range []int{0, 1, 8, 4096} {
			checkAppend(t, w, zeros[:n], api.ErrFull)
			checkWal(t, w, more, sure)
		}
		w.Sync()
		checkAppend(t, w, "", api.ErrFull)
		checkWal(t, w, more, 17)
	}
}

// 19.1: what is left may be too little for any record.
func TestLittleRoom(t *testing.T) {
	for left := range 10 {
		w, all := wal.New(), []string(nil)
		for range 15 {
			all = append(all, zeros[:4096])
		}
		all = append(all, zeros[:3968-left])
		appendAll(t, w, all)
		want := api.ErrFull
		if left >= 8 {
			want = api.OK
			all = append(all, "")
		}
		checkAppend(t, w, "", want)
		checkWal(t, w, all, 0)
	}
}

// 19.1: 8192 records with no byte are as many as there can be.
func TestManyRecords(t *testing.T) {
	w := wal.New()
	all := make([]string, 8192)
	appendAll(t, w, all[:8191])
	checkWal(t, w, all[:8191], 0)
	checkAppend(t, w, "a", api.ErrFull)
	checkAppend(t, w, "", api.OK)
	checkWal(t, w, all, 0)
	checkAppend(t, w, "", api.ErrFull)
	w.Sync()
	checkWal(t, w, all, 8192)
	checkAppend(t, w, "", api.ErrFull)
	w.Crash(0)
	checkWal(t, w, all, 8192)
}

// 19.1: of a text that is too long Frame's error is told, where the disk is full, too.
func TestTooLongOfFull(t *testing.T) {
	var all []string
	for range 15 {
		all = append(all, zeros[:4096])
	}
	all = append(all, zeros[:3968])
	w := made(t, all, nil)
	for _, n := range []int{4097, 65536, 1 << 20} {
		checkAppend(t, w, string(make([]byte, n)), api.ErrSize)
	}
	checkAppend(t, w, zeros[:4096], api.ErrFull)
	checkWal(t, w, all, 16)
}

// 19.1: Sync makes all records sure, and a second one changes nothing.
func TestSync(t *testing.T) {
	w := wal.New()
	w.Sync()
	checkWal(t, w, nil, 0)
	w.Sync()
	checkWal(t, w, nil, 0)
	all := []string{"one", "", mixed(100, 1), "", mixed(4096, 2), "six"}
	checkAppend(t, w, all[0], api.OK)
	checkWal(t, w, all[:1], 0)
	w.Sync()
	checkWal(t, w, all[:1], 1)
	w.Sync()
	checkWal(t, w, all[:1], 1)
	appendAll(t, w, all[1:5])
	checkWal(t, w, all[:5], 1)
	w.Sync()
	w.Sync()
	checkWal(t, w, all[:5], 5)
	checkAppend(t, w, zeros[:4097], api.ErrSize)
	checkAppend(t, w, all[5], api.OK)
	checkWal(t, w, all, 5)
}

// 19.1: no log tells ErrArg of every Append; by R1 it has no records, and Sync and Crash do nothing.
func TestNoLog(t *testing.T) {
	var w *wal.Wal
	for _, s := range []string{"", "a", zeros[:4096], zeros[:4097]} {
		checkAppend(t, w, s, api.ErrArg)
	}
	w.Sync()
	for _, keep := range someKeeps() {
		w.Crash(keep)
	}
	checkAppend(t, w, "a", api.ErrArg)
	if l := w.All(); len(l) != 0 || w.Sure() != 0 {
		t.Errorf("%d records, %d sure", len(l), w.Sure())
	}
}
