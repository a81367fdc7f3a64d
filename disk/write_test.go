package disk_test

import (
	"math"
	"strings"
	"testing"

	"sandglass/api"
	"sandglass/disk"
)

// 18.1: a new disk has no bytes, and nothing is synced.
func TestNew(t *testing.T) {
	d := disk.New()
	if d == nil {
		t.Fatal("no disk")
	}
	checkDisk(t, d, "", 0)
}

// 18.1: a text comes behind what is there, and is not synced by that.
func TestWrite(t *testing.T) {
	d := disk.New()
	all := ""
	for i, n := range []int{0, 1, 0, 2, 61, 1, 0, 63, 64, 65, 128, 1000, 4096, 1, 0} {
		s := mixed(n, uint64(i))
		checkDo(t, d, writing(s), api.OK)
		all += s
		checkDisk(t, d, all, 0)
	}
	for _, s := range []string{"\x00", "\x00\x00\xff", "\xff", "é\n", zeros[:200]} {
		checkDo(t, d, writing(s), api.OK)
		all += s
		checkDisk(t, d, all, 0)
	}
}

// 18.1: a write has no use for Keep, nor a sync for Keep and Text, nor a crash for Text.
func TestOtherFields(t *testing.T) {
	d := disk.New()
	checkDo(t, d, api.Act{Kind: api.DiskWrite, Text: "ab", Keep: math.MaxUint64}, api.OK)
	checkDisk(t, d, "ab", 0)
	checkDo(t, d, api.Act{Kind: api.DiskSync, Text: "cd", Keep: math.MaxUint64}, api.OK)
	checkDisk(t, d, "ab", 2)
	checkDo(t, d, api.Act{Kind: api.DiskSync, Text: zeros}, api.OK)
	checkDisk(t, d, "ab", 2)
	checkDo(t, d, writing("ef"), api.OK)
	checkDo(t, d, api.Act{Kind: api.DiskCrash, Text: zeros, Keep: 1}, api.OK)
	checkDisk(t, d, "abef", 4)
	checkDo(t, d, api.Act{Kind: api.DiskCrash, Text: "gh"}, api.OK)
	checkDisk(t, d, "abef", 4)
}

// 18.1: a disk takes 65536 bytes, at once and bit by bit; of a text that does not fit nothing is done, however much is synced.
func TestFull(t *testing.T) {
	all := mixed(65537, 3)
	for _, synced := range []int{0, 1, 64, 65534, 65535} {
		d := halfSynced(t, all[:65535], synced)
		for _, n := range []int{2, 3, 64, 65535, 65536, 65537, 1 << 17} {
			checkDo(t, d, writing(zeros[:n]), api.ErrSize)
			checkDisk(t, d, all[:65535], synced)
		}
		checkDo(t, d, writing(""), api.OK)
		checkDisk(t, d, all[:65535], synced)
		checkDo(t, d, writing(all[65535:65536]), api.OK)
		checkDisk(t, d, all[:65536], synced)
		for _, n := range []int{1, 2, 65536, 65537, 1 << 17} {
			checkDo(t, d, writing(zeros[:n]), api.ErrSize)
			checkDisk(t, d, all[:65536], synced)
		}
		checkDo(t, d, writing(""), api.OK)
		checkDisk(t, d, all[:65536], synced)
		checkDo(t, d, syncing(), api.OK)
		checkDo(t, d, writing("a"), api.ErrSize)
		checkDisk(t, d, all[:65536], 65536)
	}
}

// 18.1: the same for one text on a disk with nothing there.
func TestOneWrite(t *testing.T) {
	all := mixed(65537, 4)
	for _, n := range []int{0, 1, 63, 64, 65, 4096, 65535, 65536} {
		checkDisk(t, made(t, writing(all[:n])), all[:n], 0)
	}
	for _, s := range []string{all, zeros, strings.Repeat("x", 1<<24+1)} {
		d := disk.New()
		checkDo(t, d, writing(s), api.ErrSize)
		checkDisk(t, d, "", 0)
		checkDo(t, d, writing("a"), api.OK)
		checkDisk(t, d, "a", 0)
	}
}

// 18.1: byte by byte up to the limit.
func TestByteByByte(t *testing.T) {
	all := mixed(65537, 5)
	d := disk.New()
	for i := range 65536 {
		checkDo(t, d, writing(all[i:i+1]), api.OK)
	}
	checkDo(t, d, writing(all[65536:]), api.ErrSize)
	checkDisk(t, d, all[:65536], 0)
}

// 18.1: a sync has all that is there: nothing, what one write brought and what many did, and again.
func TestSync(t *testing.T) {
	d := disk.New()
	all := ""
	for i, n := range []int{0, 1, 1, 62, 1, 0, 64, 100, 5000} {
		for part := range i {
			s := mixed(n, uint64(part))
			checkDo(t, d, writing(s), api.OK)
			before := d.Synced()
			all += s
			checkDisk(t, d, all, before)
		}
		for range 2 {
			checkDo(t, d, syncing(), api.OK)
			checkDisk(t, d, all, len(all))
		}
	}
}

// 18.1: of other kinds ErrArg, and nothing is done, whatever else stands in them.
func TestOtherKinds(t *testing.T) {
	s := mixed(150, 6)
	for _, kind := range []int{0, 4, 5, 6, 7, -1, -2, -3, 255, 256, 257, 258, 259, 1<<16 + 1, math.MaxInt, math.MinInt, math.MinInt + 1, math.MinInt + 2, math.MinInt + 3} {
		for _, text := range []string{"", "a", zeros[:65536], zeros[:65537]} {
			for _, keep := range []uint64{0, 1, 2, math.MaxUint64} {
				a := api.Act{Kind: kind, Text: text, Keep: keep}
				d := disk.New()
				checkDo(t, d, a, api.ErrArg)
				checkDisk(t, d, "", 0)
				d = halfSynced(t, s, 70)
				checkDo(t, d, a, api.ErrArg)
				checkDisk(t, d, s, 70)
				checkDo(t, d, crashing(2), api.OK)
				checkDo(t, d, a, api.ErrArg)
				checkDisk(t, d, s[:70]+zeros[:58]+s[128:], 150)
			}
		}
	}
}

// 18.1, R1: of no disk each kind is ErrArg, also a text that would not fit, and there is nothing.
func TestNoDisk(t *testing.T) {
	var d *disk.Disk
	for _, kind := range []int{api.DiskWrite, api.DiskSync, api.DiskCrash, 0, 4, -1, math.MaxInt, math.MinInt} {
		for _, text := range []string{"", "a", zeros[:65536], zeros[:65537]} {
			for _, keep := range []uint64{0, 1, math.MaxUint64} {
				checkDo(t, d, api.Act{Kind: kind, Text: text, Keep: keep}, api.ErrArg)
				checkDisk(t, d, "", 0)
			}
		}
	}
}
