package wal_test

import (
	"hash/crc32"
	"math"
	"math/rand"
	"slices"
	"testing"

	"sandglass/api"
	"sandglass/wal"
)

// 19.1: the document's example.
func TestExample(t *testing.T) {
	w := wal.New()
	checkAppend(t, w, "a", api.OK)
	w.Sync()
	checkAppend(t, w, "b", api.OK)
	w.Crash(0)
	checkWal(t, w, []string{"a"}, 1)
}

// 19.1: a crash with nothing there, and with all sure, changes nothing, whatever keep is.
func TestNothingTorn(t *testing.T) {
	all := []string{"a", "", framed(64, 1), framed(200, 2), zeros[:70], mixed(4096, 3)}
	for n := range len(all) + 1 {
		for _, keep := range someKeeps() {
			checkCrash(t, all[:n], nil, keep, all[:n])
		}
	}
}

// 19.1: with none sure a record stays if all of its sectors do, and all that stand ahead; frames that end one byte ahead of a sector's end, at it and one byte behind it.
func TestNoneSure(t *testing.T) {
	for _, x := range []struct {
		size int
		keep uint64
		want int
	}{
		{63, 0, 0}, {63, 1, 1}, {63, 2, 0}, {63, 3, 2}, {63, 5, 1}, {63, math.MaxUint64, 2}, {63, math.MaxUint64 - 1, 0},
		{64, 0, 0}, {64, 1, 1}, {64, 2, 0}, {64, 3, 2}, {64, 5, 1}, {64, math.MaxUint64, 2}, {64, math.MaxUint64 - 1, 0},
		{65, 0, 0}, {65, 1, 0}, {65, 2, 0}, {65, 3, 2}, {65, 5, 0}, {65, math.MaxUint64, 2}, {65, math.MaxUint64 - 1, 0},
	} {
		all := []string{framed(x.size, 1), framed(20, 2)}
		checkCrash(t, nil, all, x.keep, all[:x.want])
		// A frame that is sure, and ends with a sector, shifts no other one.
		sure := []string{framed(64, 3)}
		checkCrash(t, sure, all, x.keep, slices.Concat(sure, all[:x.want]))
		sure = []string{framed(30, 4), framed(98, 5)}
		checkCrash(t, sure, all, x.keep, slices.Concat(sure, all[:x.want]))
	}
}

// 19.1: records that are sure end one byte ahead of a sector's end, at it and one byte behind it; the others begin in the same sector or in the next one.
func TestSomeSure(t *testing.T) {
	others := []string{framed(30, 1), framed(40, 2), framed(70, 3), framed(8, 4)}
	for _, x := range []struct {
		sure int
		keep uint64
		want int
	}{
		// The others end at 85, 125, 195 and 203: bits 0 to 3 are the sectors from 0, 64, 128 and 192 on.
		{55, 0, 0}, {55, 1, 0}, {55, 2, 0}, {55, 3, 2}, {55, 7, 2}, {55, 15, 4}, {55, 13, 0}, {55, 11, 2}, {55, 16, 0},
		// At 93, 133, 203 and 211.
		{63, 1, 0}, {63, 3, 1}, {63, 7, 2}, {63, 15, 4}, {63, 11, 1}, {63, 12, 0},
		// Of a length below 256 the first three bytes are 0: a gap takes nothing that was there, unless it has the fourth one.
		{63, 14, 4}, {61, 14, 4}, {60, 14, 0}, {63, 6, 2}, {61, 2, 1},
		// At 94, 134, 204 and 212: bit 0 is the sector from 64 on.
		{64, 0, 0}, {64, 1, 1}, {64, 2, 0}, {64, 3, 2}, {64, 5, 1}, {64, 7, 4}, {64, 8, 0},
		{65, 0, 0}, {65, 1, 1}, {65, 2, 0}, {65, 3, 2}, {65, 5, 1}, {65, 6, 0}, {65, 7, 4},
		// The first ends at 128 with the sector from 64 on; the next ones at 168, 238 and 246.
		{98, 0, 0}, {98, 1, 1}, {98, 2, 0}, {98, 3, 2}, {98, 5, 1}, {98, 7, 4},
		{97, 1, 1}, {97, 3, 2}, {99, 1, 0}, {99, 3, 2}, {99, 2, 0},
	} {
		sure := []string{framed(x.sure, 5)}
		checkCrash(t, sure, others, x.keep, slices.Concat(sure, others[:x.want]))
	}
}

// 19.1: a record ahead of a gap stays, one within it goes with all that stand behind it, whole ones too.
func TestGaps(t *testing.T) {
	var all []string
	for i := range 8 {
		all = append(all, framed(64, uint64(i)))
	}
	for keep := range uint64(256) {
		ahead := 0
		for keep&(1<<ahead) != 0 {
			ahead++
		}
		for sure := range 4 {
			checkCrash(t, all[:sure], all[sure:], keep, all[:min(8, sure+ahead)])
		}
	}
}

// 19.1: records that are longer than a sector stay only whole.
func TestLongRecords(t *testing.T) {
	all := []string{framed(300, 1), mixed(4096, 2), framed(129, 3), "d"}
	for _, x := range []struct {
		keep uint64
		want int
	}{
		{0, 0}, {15, 0}, {31, 1}, {math.MaxUint64, 1}, {31 | 1<<40, 1}, {30, 0}, {31 &^ 4, 0},
	} {
		checkCrash(t, nil, all, x.keep, all[:x.want])
	}
	// The second begins at 300, in the sector from 256 on, and ends at 4404, in the 65th from there.
	checkCrash(t, all[:1], all[1:], math.MaxUint64, all[:1])
	// Sectors from 4352 on: the third and the fourth end at 4533 and 4542.
	checkCrash(t, all[:2], all[2:], 3, all[:2])
	checkCrash(t, all[:2], all[2:], 7, all[:4])
	checkCrash(t, all[:2], all[2:], 5, all[:2])
	// A frame of 64 sectors, and one that begins a byte earlier than a sector does.
	checkCrash(t, nil, []string{framed(4096, 4), "b"}, math.MaxUint64, []string{framed(4096, 4)})
	checkCrash(t, nil, []string{framed(4096, 4), "b"}, math.MaxUint64>>1, nil)
	checkCrash(t, []string{framed(63, 5)}, []string{framed(4033, 6)}, math.MaxUint64, []string{framed(63, 5), framed(4033, 6)})
	checkCrash(t, []string{framed(63, 5)}, []string{framed(4034, 6)}, math.MaxUint64, []string{framed(63, 5)})
	checkCrash(t, []string{framed(61, 5)}, []string{framed(4035, 6)}, math.MaxUint64-1, []string{framed(61, 5)})
}

// 19.1: of the 65th sector that is not sure none stays, so no record that has bytes there.
func TestManySectors(t *testing.T) {
	var all []string
	for i := range 200 {
		all = append(all, framed(64, uint64(i)))
	}
	for _, sure := range []int{0, 1, 100, 135, 136, 137} {
		checkCrash(t, all[:sure], all[sure:], math.MaxUint64, all[:min(200, sure+64)])
		for k := range 64 {
			checkCrash(t, all[:sure], all[sure:], 1<<k-1, all[:min(200, sure+k)])
			stay := sure
			if k == 0 {
				stay++
			}
			checkCrash(t, all[:sure], all[sure:], 1<<k, all[:stay])
			checkCrash(t, all[:sure], all[sure:], ^(1 << k), all[:min(200, sure+k)])
		}
	}
}

// 19.1: records of bytes 0 are records as others: what a gap takes of them is what was there, if a later sector stays.
func TestZeroRecords(t *testing.T) {
	all := []string{zeros[:56], zeros[:100], zeros[:0], zeros[:1]}
	// The second one's head is in the sector from 64 on; it ends at 172.
	for _, x := range []struct {
		keep uint64
		want int
	}{{0, 0}, {1, 1}, {2, 0}, {3, 1}, {4, 0}, {5, 1}, {6, 0}, {7, 4}} {
		checkCrash(t, nil, all, x.keep, all[:x.want])
	}
	all = []string{zeros[:130], framed(54, 1)}
	checkCrash(t, nil, all, 1, nil)
	checkCrash(t, nil, all, 2, nil)
	checkCrash(t, nil, all, 5, all)
	checkCrash(t, nil, all, 7, all)
	checkCrash(t, nil, []string{zeros[:4096]}, math.MaxUint64, nil)
	// Bytes 0 are no frame of an empty record.
	checkCrash(t, nil, []string{framed(128, 2), "b"}, 4, nil)
}

// 19.1: the records are what stands on the disk: bytes that a gap took, and that the sum does not miss, are 0.
func TestSumThatFits(t *testing.T) {
	table := crc32.MakeTable(0x82F63B78)
	middle := []byte(mixed(60, 1))
	rest := ^crc32.Update(math.MaxUint32, table, middle)
	middle = append(middle, byte(rest), byte(rest>>8), byte(rest>>16), byte(rest>>24))
	front, end := mixed(56, 2), mixed(20, 3)
	all := []string{front + string(middle) + end, "b"}
	checkCrash(t, nil, all, 5, []string{front + zeros[:64] + end, "b"})
	checkCrash(t, nil, all, 7, all)
	checkCrash(t, nil, all, 6, nil)
}

// back is what a sum was ahead of 32 bits that went out.
func back(c uint32) uint32 {
	for range 32 {
		if c>>31 == 1 {
			c = (c^0x82F63B78)<<1 | 1
		} else {
			c <<= 1
		}
	}
	return c
}

// 19.1: a gap that ends behind a frame's length makes it a frame of nothing, if the sum fits; then what was its text is read on.
func TestOtherFrames(t *testing.T) {
	ahead := framed(60, 1)
	inner := plainFrames([]string{"one", "two"})
	length := fourBytes(uint32(len(inner) + 4))
	// Four bytes behind a text make its sum any other one: here that of a length 0 with no text.
	w := ^plainSum(length+inner) ^ back(^plainSum(zeros[:4]))
	text := inner + string([]byte{byte(w), byte(w >> 8), byte(w >> 16), byte(w >> 24)})
	if plainSum(length+text) != plainSum(zeros[:4]) {
		t.Fatal("another sum")
	}
	all := []string{ahead, text, "behind it"}
	checkCrash(t, nil, all, 3, all)
	checkCrash(t, nil, all, 2, nil)
	checkCrash(t, all[:1], all[1:], 2, []string{ahead, "", "one", "two"})
	checkCrash(t, all[:1], all[1:], 1, all[:1])
}

// 19.1: all places of the first record that isn't sure, with keeps of a few bits, against the plain count.
func TestAllPlaces(t *testing.T) {
	for sure := 8; sure <= 140; sure++ {
		for size := 8; size <= 140; size += 11 {
			others := []string{framed(size, 1), framed(70, 2), zeros[:9]}
			for keep := range uint64(32) {
				checkPlainCrash(t, []string{framed(sure, 3)}, others, keep)
			}
		}
	}
}

// 19.1: what is appended behind a crash comes right behind the records, is not sure ahead of a Sync, and goes and stays as others.
func TestBehindCrash(t *testing.T) {
	all := []string{framed(50, 1), framed(60, 2), framed(70, 3), framed(80, 4)}
	w := made(t, all[:1], all[1:])
	// They end at 50, 110, 180 and 260.
	w.Crash(0b1011)
	checkWal(t, w, all[:2], 2)
	for _, keep := range someKeeps() {
		w.Crash(keep)
		checkWal(t, w, all[:2], 2)
	}
	checkAppend(t, w, "third", api.OK)
	checkWal(t, w, append(all[:2:2], "third"), 2)
	w.Crash(0)
	checkWal(t, w, all[:2], 2)
	checkAppend(t, w, "other", api.OK)
	w.Sync()
	// From 110 to 123; the next one ends at 203, in the sector from 192 on.
	checkAppend(t, w, all[3], api.OK)
	checkAppend(t, w, "end", api.OK)
	checkWal(t, w, []string{all[0], all[1], "other", all[3], "end"}, 3)
	w.Crash(0b111)
	checkWal(t, w, []string{all[0], all[1], "other", all[3], "end"}, 5)
	w.Crash(0)
	checkWal(t, w, []string{all[0], all[1], "other", all[3], "end"}, 5)
}

// 19.1: a crash of all records leaves a log as a new one is.
func TestNothingLeft(t *testing.T) {
	for _, keep := range []uint64{0, 2, math.MaxUint64 - 1} {
		w := made(t, nil, []string{framed(64, 1), framed(64, 2), framed(64, 3)})
		w.Crash(keep)
		checkWal(t, w, nil, 0)
		checkAppend(t, w, "a", api.OK)
		checkWal(t, w, []string{"a"}, 0)
		w.Crash(1)
		checkWal(t, w, []string{"a"}, 1)
	}
}

// 19.1: a crash gives back the room of the records it took, and of what stood behind them.
func TestRoomBehindCrash(t *testing.T) {
	var full []string
	for i := range 15 {
		full = append(full, mixed(4096, uint64(i)))
	}
	full = append(full, mixed(3968, 15))
	for _, sure := range []int{0, 1, 8, 15} {
		for _, keep := range []uint64{0, 1, 1 << 63, 0x5555555555555555, math.MaxUint64 - 1} {
			w := made(t, full[:sure], full[sure:])
			checkAppend(t, w, "", api.ErrFull)
			w.Crash(keep)
			checkWal(t, w, full[:sure], sure)
			appendAll(t, w, full[sure:])
			checkWal(t, w, full, sure)
			checkAppend(t, w, "", api.ErrFull)
			w.Sync()
			w.Crash(keep)
			checkWal(t, w, full, 16)
			checkAppend(t, w, "", api.ErrFull)
		}
	}
}

// 19.2 and T4: if keep's bits are set from the lowest on without a gap, the records are those that were sure, and a beginning of the others; whatever keep is, those that were sure are there.
func TestBeginning(t *testing.T) {
	r := rand.New(rand.NewSource(1))
	for range 40 {
		var all []string
		for i := range 1 + r.Intn(60) {
			all = append(all, mixed(anySize(r), uint64(i)))
		}
		all = fitting(all)
		sure := r.Intn(len(all) + 1)
		last := sure
		for k := range 65 {
			w := made(t, all[:sure], all[sure:])
			w.Crash(1<<k - 1)
			got := w.All()
			n := len(got)
			if n < last || n > len(all) || !slices.Equal(got, all[:n]) {
				t.Fatalf("%d records, %d sure, %d bits: no beginning", len(all), sure, k)
			}
			checkWal(t, w, all[:n], n)
			last = n
		}
		for range 20 {
			w := made(t, all[:sure], all[sure:])
			keep := anyKeep(r)
			w.Crash(keep)
			if got := w.All(); len(got) < sure || !slices.Equal(got[:sure], all[:sure]) {
				t.Fatalf("%d records, keep %#x: of %d that were sure not all are there", len(all), keep, sure)
			}
		}
	}
}

// fitting are as many of these as a log takes.
func fitting(l []string) []string {
	for len(plainFrames(l)) > 65536 {
		l = l[:len(l)-1]
	}
	return l
}

func anySize(r *rand.Rand) int {
	sizes := []int{0, 1, 55, 56, 57, r.Intn(100), r.Intn(300), r.Intn(4097)}
	return sizes[r.Intn(len(sizes))]
}

func anyKeep(r *rand.Rand) uint64 {
	keeps := []uint64{r.Uint64(), r.Uint64() | r.Uint64() | r.Uint64(), 1<<r.Intn(65) - 1, 1 << r.Intn(64), uint64(r.Intn(16)), 0, math.MaxUint64}
	return keeps[r.Intn(len(keeps))]
}

// doAny does one deed to a log, and to the plain one, whose answer it is to have.
func doAny(t *testing.T, r *rand.Rand, w *wal.Wal, p *plainWal) {
	t.Helper()
	switch n := r.Intn(20); {
	case n < 12:
		s := mixed(anySize(r), r.Uint64())
		checkAppend(t, w, s, p.append(s))
	case n < 13:
		s := zeros[:r.Intn(4100)]
		checkAppend(t, w, s, p.append(s))
	case n < 16:
		w.Sync()
		p.sync()
	default:
		keep := anyKeep(r)
		w.Crash(keep)
		p.crash(keep)
	}
}

// 19.1: rows of appends, syncs and crashes, against the plain count.
func TestRowsOfDeeds(t *testing.T) {
	for seed := range int64(40) {
		r := rand.New(rand.NewSource(seed))
		w := wal.New()
		var p plainWal
		for range 60 {
			doAny(t, r, w, &p)
			checkWal(t, w, p.records, p.sure)
			if t.Failed() {
				t.Fatalf("seed %d", seed)
			}
		}
	}
}
