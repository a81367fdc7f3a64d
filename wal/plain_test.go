package wal_test

import (
	"encoding/binary"
	"hash/crc32"
	"math"
	"slices"
	"strings"
	"testing"

	"sandglass/api"
	"sandglass/wal"
)

var zeros = strings.Repeat("\x00", 5000)

// mixed is a text of that length; other seeds have other ones.
func mixed(length int, seed uint64) string {
	b := make([]byte, length)
	x := seed*2 + 1
	for i := range b {
		x = x*6364136223846793005 + 1442695040888963407
		b[i] = byte(x >> 56)
	}
	return string(b)
}

// framed is a text whose frame has that many bytes.
func framed(size int, seed uint64) string { return mixed(size-8, seed) }

// plainSum is the library's, of the same polynomial.
func plainSum(s string) uint32 {
	return crc32.Checksum([]byte(s), crc32.MakeTable(0x82F63B78))
}

// fourBytes are a number's, the highest first, by the library.
func fourBytes(n uint32) string { return string(binary.BigEndian.AppendUint32(nil, n)) }

func plainFrame(s string) string {
	length := fourBytes(uint32(len(s)))
	return length + fourBytes(plainSum(length+s)) + s
}

func plainFrames(l []string) string {
	var b strings.Builder
	for _, s := range l {
		b.WriteString(plainFrame(s))
	}
	return b.String()
}

// plainPrefix are the texts from the front on, up to what is no whole frame.
func plainPrefix(s string) []string {
	var l []string
	for len(s) >= 8 {
		length := binary.BigEndian.Uint32([]byte(s[:4]))
		if length > 4096 || len(s) < 8+int(length) {
			break
		}
		text := s[8 : 8+length]
		if !strings.HasPrefix(s, plainFrame(text)) {
			break
		}
		l, s = append(l, text), s[8+length:]
	}
	return l
}

// plainTear is what a crash leaves of a text whose first bytes are synced: each byte behind them is asked for its sector.
func plainTear(s string, synced int, keep uint64) string {
	b, end := []byte(s), synced
	for i := synced; i < len(b); i++ {
		k := i/64 - synced/64
		if k < 64 && keep&(1<<k) != 0 {
			end = i + 1
		} else {
			b[i] = 0
		}
	}
	return string(b[:end])
}

// plainWal is the records themselves, and how many are sure; bytes are made of them where a crash asks for some.
type plainWal struct {
	records []string
	sure    int
}

func (p *plainWal) append(s string) api.Errno {
	switch {
	case len(s) > 4096:
		return api.ErrSize
	case len(plainFrames(p.records))+8+len(s) > 65536:
		return api.ErrFull
	}
	p.records = append(p.records, s)
	return api.OK
}

func (p *plainWal) sync() { p.sure = len(p.records) }

func (p *plainWal) crash(keep uint64) {
	p.records = plainPrefix(plainTear(plainFrames(p.records), len(plainFrames(p.records[:p.sure])), keep))
	p.sync()
}

// someKeeps are each bit alone, the lowest bits, all but the lowest, all but one, and bits with gaps.
func someKeeps() []uint64 {
	l := []uint64{0, math.MaxUint64, 5, 10, 0x5555555555555555, 0xaaaaaaaaaaaaaaaa, 0x8000000000000001, 0xf0f0, 0x0123456789abcdef}
	for k := range 64 {
		bit := uint64(1) << k
		l = append(l, bit, bit-1, -bit, ^bit)
	}
	return l
}

// made is a log with these records sure, and those behind them.
func made(t *testing.T, sure, others []string) *wal.Wal {
	t.Helper()
	w := wal.New()
	appendAll(t, w, sure)
	w.Sync()
	appendAll(t, w, others)
	return w
}

func appendAll(t *testing.T, w *wal.Wal, l []string) {
	t.Helper()
	for _, s := range l {
		checkAppend(t, w, s, api.OK)
	}
}

func checkAppend(t *testing.T, w *wal.Wal, s string, want api.Errno) {
	t.Helper()
	if err := w.Append(s); err != want {
		t.Errorf("a record of %d bytes: %d; want %d", len(s), err, want)
	}
}

// checkWal asks the disk's own methods, too: they are the log's, and what is there is the frames of the records, and nothing behind them.
func checkWal(t *testing.T, w *wal.Wal, records []string, sure int) {
	t.Helper()
	got := w.All()
	for i := range min(len(got), len(records)) {
		if got[i] != records[i] {
			t.Errorf("record %d is %q; want %q", i, short(got[i]), short(records[i]))
			break
		}
	}
	if len(got) != len(records) || w.Sure() != sure {
		t.Errorf("%d records, %d sure; want %d, %d", len(got), w.Sure(), len(records), sure)
	}
	if w.Text() != plainFrames(records) || w.Synced() != len(plainFrames(records[:sure])) {
		t.Errorf("the disk has %d bytes, %d synced; want those of %d records, of %d", len(w.Text()), w.Synced(), len(records), sure)
	}
}

// checkCrash holds a log's records behind a crash against those that are to stay, and goes on with it.
func checkCrash(t *testing.T, sure, others []string, keep uint64, want []string) {
	t.Helper()
	w := made(t, sure, others)
	checkWal(t, w, slices.Concat(sure, others), len(sure))
	w.Crash(keep)
	checkWal(t, w, want, len(want))
	checkAppend(t, w, "behind", api.OK)
	w.Sync()
	w.Crash(0)
	checkWal(t, w, append(slices.Clone(want), "behind"), len(want)+1)
	if t.Failed() {
		t.Fatalf("%d sure, %d others, keep %#x", len(sure), len(others), keep)
	}
}

// checkPlainCrash is the same, against the plain count.
func checkPlainCrash(t *testing.T, sure, others []string, keep uint64) {
	t.Helper()
	p := plainWal{slices.Concat(sure, others), len(sure)}
	p.crash(keep)
	checkCrash(t, sure, others, keep, p.records)
}

func short(s string) string { return s[:min(len(s), 20)] }

// The plain count itself, against what was counted by hand.
func TestPlainCount(t *testing.T) {
	if plainSum("123456789") != 0xE3069283 || plainFrame("ab") != "\x00\x00\x00\x02"+fourBytes(plainSum("\x00\x00\x00\x02ab"))+"ab" {
		t.Error("a frame")
	}
	s := mixed(200, 1)
	for _, x := range []struct {
		synced int
		keep   uint64
		want   string
	}{{0, 0, ""}, {0, 1, s[:64]}, {0, 2, zeros[:64] + s[64:128]}, {70, 1, s[:128]}, {70, 4, s[:70] + zeros[:122] + s[192:]}, {200, 1, s}} {
		if plainTear(s, x.synced, x.keep) != x.want {
			t.Errorf("%d synced, keep %d: a tear", x.synced, x.keep)
		}
	}
	log := plainFrames([]string{"a", "", "bc"})
	for n := range len(log) + 1 {
		want := []string{"a", "", "bc"}[:min(1, n/9)+min(1, n/17)+min(1, n/27)]
		if !slices.Equal(plainPrefix(log[:n]), want) {
			t.Errorf("%d bytes: a prefix", n)
		}
	}
	p := plainWal{}
	if p.append(zeros[:4097]) != api.ErrSize || p.append("a") != api.OK || p.append("b") != api.OK {
		t.Error("an append")
	}
	p.sync()
	p.append("c")
	p.crash(0)
	if !slices.Equal(p.records, []string{"a", "b"}) || p.sure != 2 {
		t.Error("a crash")
	}
}
