package record_test

import (
	"strings"
	"testing"

	"sandglass/record"
)

type textSum struct {
	text string
	sum  uint32
}

// rfcSums are RFC 3720's examples, in its appendix B.4 (there the bytes of a sum stand the lowest first).
func rfcSums() []textSum {
	rising, falling := make([]byte, 32), make([]byte, 32)
	for i := range 32 {
		rising[i], falling[i] = byte(i), byte(31-i)
	}
	command := "\x01\xc0\x00\x00" + zeros[:12] + "\x14\x00\x00\x00\x00\x00\x04\x00\x00\x00\x00\x14\x00\x00\x00\x18\x28\x00\x00\x00\x00\x00\x00\x00\x02\x00\x00\x00\x00\x00\x00\x00"
	return []textSum{
		{zeros[:32], 0x8A9136AA},
		{strings.Repeat("\xff", 32), 0x62A8AB43},
		{string(rising), 0x46DD794E},
		{string(falling), 0x113FDB5C},
		{command, 0xD9963A56},
	}
}

func checkSum(t *testing.T, s string, want uint32) {
	t.Helper()
	if got := record.Sum(s); got != want {
		t.Errorf("Sum of %d bytes, %q: %#x; want %#x", len(s), short(s), got, want)
	}
}

// The chapter's example.
func TestSumExample(t *testing.T) {
	checkSum(t, "123456789", 0xE3069283)
}

// 17.1: sums that others tell.
func TestSumKnown(t *testing.T) {
	checkSum(t, "", 0)
	checkSum(t, "a", 0xC1D04330)
	checkSum(t, "\x00", 0x527D5351)
	checkSum(t, "\xff", 0xFF000000)
	checkSum(t, "\x00\x00\x00\x00", 0x48674BC7)
	checkSum(t, "\xff\xff\xff\xff", 0xFFFFFFFF)
	for _, x := range rfcSums() {
		checkSum(t, x.text, x.sum)
	}
}

// 17.1: each single byte; no two of them have the same sum.
func TestSumOfAByte(t *testing.T) {
	seen := map[uint32]int{}
	for v := range 256 {
		s := string([]byte{byte(v)})
		checkSum(t, s, plainSum(s))
		if other, is := seen[record.Sum(s)]; is {
			t.Errorf("%d and %d have the same sum", other, v)
		}
		seen[record.Sum(s)] = v
	}
}

// 17.1: each byte at each place of a text, the highest bits among them.
func TestSumOfAnyByte(t *testing.T) {
	for v := range 256 {
		for at := range 12 {
			s := zeros[:at] + string([]byte{byte(v)}) + strings.Repeat("\x80", 11-at)
			checkSum(t, s, plainSum(s))
		}
	}
	for _, v := range []string{"\x80", "\xff", "\xfe\x01", "é", "\u65e5"} {
		for n := range 80 {
			checkSum(t, strings.Repeat(v, n), plainSum(strings.Repeat(v, n)))
		}
	}
}

// 17.1: texts of many lengths.
func TestSumLengths(t *testing.T) {
	for n := range 600 {
		checkSum(t, mixed(n, uint64(n)), plainSum(mixed(n, uint64(n))))
		checkSum(t, zeros[:n], plainSum(zeros[:n]))
	}
	for _, n := range []int{4095, 4096, 4097, 4104, 65535, 65536, 65537, 1 << 20} {
		checkSum(t, mixed(n, 7), plainSum(mixed(n, 7)))
	}
}

// 17.1: a bit that is turned alters the sum, wherever it stands.
func TestSumOfATurnedBit(t *testing.T) {
	for _, s := range []string{zeros[:40], mixed(40, 1), "a"} {
		sum := record.Sum(s)
		for bit := range 8 * len(s) {
			other := turned(s, bit/8, 1<<(bit%8))
			checkSum(t, other, plainSum(other))
			if record.Sum(other) == sum {
				t.Errorf("bit %d of %q turned: the same sum", bit, s)
			}
		}
	}
}

// 17.1: up to 32 bits side by side that are turned alter the sum, wherever they stand.
func TestSumOfTurnedBits(t *testing.T) {
	patterns := []uint32{0xFFFFFFFF, 0x80000001, 0x82F63B78, 0x1EDC6F41, 0x00010001, 0xA5A5A5A5, 0xFFFF0001}
	for _, s := range []string{zeros[:40], mixed(40, 2)} {
		sum := record.Sum(s)
		for bit := range 8*len(s) - 31 {
			for _, p := range patterns {
				b := []byte(s)
				for k := range 32 {
					b[(bit+k)/8] ^= byte(p>>k&1) << ((bit + k) % 8)
				}
				checkSum(t, string(b), plainSum(string(b)))
				if record.Sum(string(b)) == sum {
					t.Errorf("bits %#x from %d on of %q turned: the same sum", p, bit, s)
				}
			}
		}
	}
}
