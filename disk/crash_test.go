package disk_test

import (
	"math"
	"math/rand"
	"strings"
	"testing"

	"sandglass/api"
	"sandglass/disk"
)

// someKeeps are each bit alone, the lowest bits, all but the lowest, all but one, and bits with gaps.
func someKeeps() []uint64 {
	l := []uint64{0, math.MaxUint64, 5, 10, 0x5555555555555555, 0xaaaaaaaaaaaaaaaa, 0x8000000000000001, 0xf0f0, 0x0123456789abcdef}
	for k := range 64 {
		bit := uint64(1) << k
		l = append(l, bit, bit-1, -bit, ^bit)
	}
	return l
}

// 18.1: the document's example.
func TestExample(t *testing.T) {
	s := mixed(100, 1)
	checkCrash(t, s, 0, 2, zeros[:64]+s[64:])
}

// 18.1: a crash with nothing there, and with all synced, changes nothing, whatever Keep is.
func TestNothingTorn(t *testing.T) {
	all := mixed(65536, 2)
	for _, n := range []int{0, 1, 63, 64, 65, 127, 128, 129, 4096, 65535, 65536} {
		for _, keep := range someKeeps() {
			d := made(t, writing(all[:n]), syncing(), crashing(keep))
			checkDisk(t, d, all[:n], n)
		}
	}
	for _, keep := range someKeeps() {
		checkDisk(t, made(t, crashing(keep)), "", 0)
	}
}

// 18.1: nothing synced, and a last sector of 1, 63 and 64 bytes; what was counted by hand.
func TestNothingSynced(t *testing.T) {
	s := mixed(192, 3)
	for _, n := range []int{129, 191, 192} {
		last := s[128:n]
		for keep, want := range []string{
			"",
			s[:64],
			zeros[:64] + s[64:128],
			s[:128],
			zeros[:128] + last,
			s[:64] + zeros[:64] + last,
			zeros[:64] + s[64:128] + last,
			s[:n],
		} {
			checkCrash(t, s[:n], 0, uint64(keep), want)
			checkCrash(t, s[:n], 0, uint64(keep)|8, want)
			checkCrash(t, s[:n], 0, uint64(keep)|1<<63|1<<8, want)
		}
	}
	for _, n := range []int{1, 2, 63, 64} {
		checkCrash(t, s[:n], 0, 0, "")
		checkCrash(t, s[:n], 0, 1, s[:n])
		checkCrash(t, s[:n], 0, 2, "")
		checkCrash(t, s[:n], 0, math.MaxUint64-1, "")
		checkCrash(t, s[:n], 0, math.MaxUint64, s[:n])
	}
}

// 18.1: a synced part that ends one byte ahead of a sector's end, at it and one byte behind it; the sector that has both keeps its synced bytes, whether it stays or not.
func TestSyncedPart(t *testing.T) {
	s := mixed(200, 4)
	for _, x := range []struct {
		synced int
		keep   uint64
		want   string
	}{
		{1, 0, s[:1]}, {1, 1, s[:64]}, {1, 2, s[:1] + zeros[:63] + s[64:128]}, {1, 8, s[:1] + zeros[:191] + s[192:]}, {1, 16, s[:1]}, {1, 15, s},
		{63, 0, s[:63]}, {63, 1, s[:64]}, {63, 2, s[:63] + "\x00" + s[64:128]}, {63, 9, s[:64] + zeros[:128] + s[192:]}, {63, 16, s[:63]},
		{64, 0, s[:64]}, {64, 1, s[:128]}, {64, 2, s[:64] + zeros[:64] + s[128:192]}, {64, 4, s[:64] + zeros[:128] + s[192:]}, {64, 5, s[:128] + zeros[:64] + s[192:]}, {64, 8, s[:64]}, {64, 7, s},
		{65, 0, s[:65]}, {65, 1, s[:128]}, {65, 2, s[:65] + zeros[:63] + s[128:192]}, {65, 4, s[:65] + zeros[:127] + s[192:]}, {65, 8, s[:65]}, {65, 7, s},
		{127, 2, s[:127] + "\x00" + s[128:192]}, {128, 1, s[:192]}, {128, 2, s[:128] + zeros[:64] + s[192:]}, {129, 1, s[:192]}, {129, 2, s[:129] + zeros[:63] + s[192:]},
		{191, 1, s[:192]}, {191, 2, s[:191] + "\x00" + s[192:]}, {192, 0, s[:192]}, {192, 1, s}, {192, 2, s[:192]},
		{193, 0, s[:193]}, {193, 1, s}, {193, 2, s[:193]}, {199, 0, s[:199]}, {199, 1, s}, {199, math.MaxUint64 - 1, s[:199]},
	} {
		checkCrash(t, s, x.synced, x.keep, x.want)
	}
}

// 18.1: all lengths of the synced part, with texts that end ahead of a sector's end, at it and behind it.
func TestAllSyncedParts(t *testing.T) {
	s := mixed(260, 5)
	for _, n := range []int{1, 2, 63, 64, 65, 100, 127, 128, 129, 191, 192, 193, 255, 256, 257} {
		for synced := range n + 1 {
			for keep := range uint64(64) {
				checkPlainCrash(t, s[:n], synced, keep)
			}
			checkPlainCrash(t, s[:n], synced, math.MaxUint64)
			checkPlainCrash(t, s[:n], synced, 1<<63)
		}
	}
}

// 18.1: bytes 0 stay as they are, and are bytes as others: the text does not end ahead of those that stay.
func TestZeroBytes(t *testing.T) {
	checkCrash(t, zeros[:200], 0, 1, zeros[:64])
	checkCrash(t, zeros[:200], 0, 8, zeros[:200])
	checkCrash(t, zeros[:200], 70, 2, zeros[:192])
	checkCrash(t, zeros[:200], 70, 0, zeros[:70])
	checkCrash(t, strings.Repeat("\xff", 130), 3, 4, "\xff\xff\xff"+zeros[:125]+"\xff\xff")
}

// 18.1: of 64 sectors each has a bit, and of the 65th on none stays.
func TestManySectors(t *testing.T) {
	s := mixed(70*64, 6)
	for _, ahead := range []int{0, 1, 63, 64, 65} {
		first := ahead / 64 * 64 // where the 0th sector begins that has bytes not synced
		for _, sectors := range []int{63, 64, 65, 66} {
			for _, last := range []int{1, 63, 64} {
				n := first + (sectors-1)*64 + last
				kept := min(n, first+64*64)
				checkCrash(t, s[:n], ahead, math.MaxUint64, s[:kept])
				checkCrash(t, s[:n], ahead, math.MaxUint64>>1, s[:min(n, first+63*64)])
				if sectors >= 64 {
					checkCrash(t, s[:n], ahead, 1<<63, s[:ahead]+zeros[ahead:first+63*64]+s[first+63*64:kept])
				} else {
					checkCrash(t, s[:n], ahead, 1<<63, s[:ahead])
				}
				for _, keep := range someKeeps() {
					checkPlainCrash(t, s[:n], ahead, keep)
				}
			}
		}
	}
}

// 18.1: each bit alone, of a full disk and of one with a part synced.
func TestEachBit(t *testing.T) {
	s := mixed(65536, 7)
	for _, synced := range []int{0, 10, 64, 1000, 61440, 61441, 65472, 65473, 65535} {
		first := synced / 64
		for k := range 64 {
			want := s[:synced]
			if from := (first + k) * 64; k == 0 {
				want = s[:from+64]
			} else if from < 65536 {
				want += zeros[:from-synced] + s[from:from+64]
			}
			checkCrash(t, s, synced, 1<<k, want)
		}
		checkCrash(t, s, synced, math.MaxUint64, s[:min(65536, (first+64)*64)])
		checkCrash(t, s, synced, 0, s[:synced])
	}
}

// 18.1: what a crash left is synced: another one takes none of it, and writes come behind it.
func TestBehindCrash(t *testing.T) {
	s, more := mixed(200, 8), mixed(200, 9)
	d := halfSynced(t, s, 70)
	checkDo(t, d, crashing(2), api.OK)
	left := s[:70] + zeros[:58] + s[128:192]
	checkDisk(t, d, left, 192)
	for _, keep := range someKeeps() {
		checkDo(t, d, crashing(keep), api.OK)
		checkDisk(t, d, left, 192)
	}
	checkDo(t, d, writing(more[:10]), api.OK)
	checkDisk(t, d, left+more[:10], 192)
	checkDo(t, d, crashing(0), api.OK)
	checkDisk(t, d, left, 192)
	checkDo(t, d, writing(more[:5]), api.OK)
	checkDo(t, d, syncing(), api.OK)
	checkDisk(t, d, left+more[:5], 197)
	checkDo(t, d, writing(more[5:]), api.OK)
	checkDisk(t, d, left+more, 197)
	// 192 to 256 have synced bytes up to 197; 64 and 128 bytes behind stand the next two.
	checkDo(t, d, crashing(4), api.OK)
	left += more[:5] + zeros[:123] + more[128:192]
	checkDisk(t, d, left, 384)
	checkDo(t, d, crashing(math.MaxUint64), api.OK)
	checkDisk(t, d, left, 384)
}

// 18.1: a crash gives back the room of what it took, and what was there does not come back.
func TestRoomBehindCrash(t *testing.T) {
	s := mixed(65536, 10)
	d := halfSynced(t, s, 100)
	checkDo(t, d, writing("a"), api.ErrSize)
	checkDo(t, d, crashing(0), api.OK)
	checkDisk(t, d, s[:100], 100)
	checkDo(t, d, writing(zeros[:65437]), api.ErrSize)
	checkDisk(t, d, s[:100], 100)
	checkDo(t, d, writing(s[:65436]), api.OK)
	checkDisk(t, d, s[:100]+s[:65436], 100)
	checkDo(t, d, writing("a"), api.ErrSize)
	checkDo(t, d, crashing(math.MaxUint64), api.OK)
	checkDisk(t, d, (s[:100] + s[:65436])[:65*64], 65*64)
}

// T4: what was synced is there behind every crash, and, if Keep's bits are set from the lowest on without a gap, with a beginning of the rest.
func TestSyncedStays(t *testing.T) {
	s := mixed(5000, 11)
	for _, synced := range []int{0, 1, 64, 100, 4000, 4999, 5000} {
		for _, keep := range someKeeps() {
			d := halfSynced(t, s, synced)
			checkDo(t, d, crashing(keep), api.OK)
			left := d.Text()
			if !strings.HasPrefix(left, s[:synced]) {
				t.Errorf("%d synced, Keep %#x: of these not all are there", synced, keep)
			}
			if keep&(keep+1) == 0 && !strings.HasPrefix(s, left) {
				t.Errorf("%d synced, Keep %#x: no beginning", synced, keep)
			}
		}
	}
}

// anyAct is a write most often, sometimes one that does not fit, a sync, a crash, or another kind.
func anyAct(r *rand.Rand) api.Act {
	keeps := []uint64{r.Uint64(), r.Uint64() & r.Uint64(), 1<<r.Intn(70) - 1, 1 << r.Intn(64), uint64(r.Intn(16)), 0, math.MaxUint64}
	a := api.Act{Keep: keeps[r.Intn(len(keeps))]}
	switch n := r.Intn(20); {
	case n < 12:
		sizes := []int{0, 1, 63, 64, 65, r.Intn(200), r.Intn(3000)}
		a.Kind, a.Text = api.DiskWrite, mixed(sizes[r.Intn(len(sizes))], r.Uint64())
	case n < 14:
		a.Kind = api.DiskSync
	case n < 18:
		a.Kind = api.DiskCrash
	case n == 18:
		a.Kind, a.Text = api.DiskWrite, zeros[:60000+r.Intn(6000)]
	default:
		a.Kind = []int{0, 4, -1, r.Int()}[r.Intn(4)]
	}
	return a
}

// 18.1: rows of acts of all kinds, against the plain count.
func TestRowsOfActs(t *testing.T) {
	for seed := range int64(60) {
		r := rand.New(rand.NewSource(seed))
		d := disk.New()
		var p plainDisk
		for range 60 {
			a := anyAct(r)
			checkDo(t, d, a, p.do(a))
			checkDisk(t, d, p.text(), p.countSynced())
			if t.Failed() {
				t.Fatalf("seed %d: kind %d, %d bytes, Keep %#x", seed, a.Kind, len(a.Text), a.Keep)
			}
		}
	}
}
