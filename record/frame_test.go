package record_test

import (
	"strings"
	"testing"

	"sandglass/api"
	"sandglass/record"
)

func checkFrame(t *testing.T, s, want string) {
	t.Helper()
	if got, err := record.Frame(s); got != want || err != api.OK {
		t.Errorf("Frame of %d bytes, %q: %d bytes, %q, %d; want %q", len(s), short(s), len(got), short(got), err, short(want))
	}
}

func checkNext(t *testing.T, s, want string, size int) {
	t.Helper()
	if got, n, err := record.Next(s); got != want || n != size || err != api.OK {
		t.Errorf("Next of %d bytes, %q: %d bytes, %q, %d, %d; want %q, %d", len(s), short(s), len(got), short(got), n, err, short(want), size)
	}
}

func checkRefused(t *testing.T, s string, want api.Errno) {
	t.Helper()
	if got, n, err := record.Next(s); got != "" || n != 0 || err != want {
		t.Errorf("Next of %d bytes, %q: %q, %d, %d; want %d", len(s), short(s), short(got), n, err, want)
	}
}

// checkAnyNext holds Next of any bytes against the plain count, and that what is read is written just so.
func checkAnyNext(t *testing.T, s string) {
	t.Helper()
	text, n, err := plainNext(s)
	if err != api.OK {
		checkRefused(t, s, err)
		return
	}
	checkNext(t, s, text, n)
	checkFrame(t, text, s[:n])
}

// someTexts are short ones, and those at the edges of what a length's bytes tell.
func someTexts() []string {
	return []string{"", "a", "ab", "\x00", "\xff\xff\xff\xff", "a text of a record", zeros[:9], mixed(255, 1), mixed(256, 2), mixed(257, 3), mixed(4095, 4), mixed(4096, 5), zeros[:4096]}
}

// 17.1: frames that were written by hand.
func TestFrameBytes(t *testing.T) {
	checkFrame(t, "", "\x00\x00\x00\x00\x48\x67\x4b\xc7")
	// Another program made these sums of the document's words.
	checkFrame(t, "a", "\x00\x00\x00\x01\xc5\x7d\xfe\x23"+"a")
	checkFrame(t, "ab", "\x00\x00\x00\x02\x0b\x86\x70\x63"+"ab")
}

// 17.1: the length in its bytes, and the sum of these and the text in its own.
func TestFrame(t *testing.T) {
	for _, x := range []struct {
		n      int
		length string
	}{
		{0, "\x00\x00\x00\x00"},
		{1, "\x00\x00\x00\x01"},
		{255, "\x00\x00\x00\xff"},
		{256, "\x00\x00\x01\x00"},
		{257, "\x00\x00\x01\x01"},
		{4095, "\x00\x00\x0f\xff"},
		{4096, "\x00\x00\x10\x00"},
	} {
		for _, s := range []string{mixed(x.n, 9), zeros[:x.n], strings.Repeat("\xff", x.n)} {
			sum := record.Sum(x.length + s)
			head := x.length + string([]byte{byte(sum >> 24), byte(sum >> 16), byte(sum >> 8), byte(sum)})
			checkFrame(t, s, head+s)
			checkNext(t, head+s, s, 8+x.n)
		}
	}
}

// 17.1: all lengths that may be, and those beyond.
func TestFrameLengths(t *testing.T) {
	all := mixed(4200, 6)
	for n := range 4097 {
		checkFrame(t, all[:n], plainFrame(all[:n]))
	}
	for _, n := range []int{4097, 4098, 4104, 4105, 4200, 8192, 65535, 65536, 65537, 1 << 17, 1 << 20, 1<<24 + 1} {
		if got, err := record.Frame(strings.Repeat("x", n)); got != "" || err != api.ErrSize {
			t.Errorf("Frame of %d bytes: %d bytes, %d", n, len(got), err)
		}
	}
}

// 17.1: what Frame gives is read back, alone and with other bytes behind it.
func TestNext(t *testing.T) {
	for _, s := range someTexts() {
		f, err := record.Frame(s)
		if err != api.OK {
			t.Errorf("Frame of %d bytes: %d", len(s), err)
			continue
		}
		checkNext(t, f, s, len(s)+8)
		for _, behind := range []string{"\x00", "x", "\xff\xff\xff\xff", f, zeros[:len(f)], mixed(len(f), 3), mixed(5000, 4), zeros} {
			checkNext(t, f+behind, s, len(s)+8)
		}
	}
}

// 17.1: each cut of a frame, from no byte on.
func TestNextCuts(t *testing.T) {
	for _, s := range someTexts() {
		f := plainFrame(s)
		for cut := range len(f) {
			checkRefused(t, f[:cut], api.ErrSize)
		}
	}
}

// 17.1: lengths at the limit and beyond it, however many bytes follow.
func TestNextLengths(t *testing.T) {
	beyond := []uint32{4097, 4098, 4104, 8191, 8192, 65535, 65536, 65536 + 5, 1 << 20, 1<<24 - 1, 1 << 24, 1<<24 + 1, 1<<31 - 8, 1<<31 - 1, 1 << 31, 1<<31 + 1, 1<<32 - 8, 1<<32 - 4, 1<<32 - 1}
	for _, length := range beyond {
		for _, n := range []int{0, 1, 3, 4, 5, 8, 100, 4095, 4096, 4097, 4100, 4101, 4105, 5000, 65536, 65540, 65541, len(zeros)} {
			checkRefused(t, fourBytes(length)+zeros[:n], api.ErrSyntax)
		}
	}
	checkRefused(t, "\xff\xff\xff\xff", api.ErrSyntax)
	checkRefused(t, plainFrame(mixed(4097, 1)), api.ErrSyntax)
	checkRefused(t, plainFrame(mixed(65536, 1)), api.ErrSyntax)
	for _, n := range []int{0, 3, 4, 5, 100, 4095, 4096, 4099} {
		checkRefused(t, "\x00\x00\x10\x00"+zeros[:n], api.ErrSize)
	}
	for _, n := range []int{4100, 4101, 5000, len(zeros)} {
		checkRefused(t, "\x00\x00\x10\x00"+zeros[:n], api.ErrSum)
	}
	whole := mixed(4096, 8)
	checkNext(t, plainFrame(whole), whole, 4104)
}

// 17.1: each length of two bytes and more, with few bytes behind it and with many.
func TestNextAnyLength(t *testing.T) {
	for length := range uint32(1 << 13) {
		checkAnyNext(t, fourBytes(length))
		checkAnyNext(t, fourBytes(length)+zeros[:4])
		checkAnyNext(t, fourBytes(length)+zeros[:3+length])
		checkAnyNext(t, fourBytes(length)+zeros[:4+length])
	}
	for bit := range 32 {
		for _, low := range []uint32{0, 1, 4096} {
			checkAnyNext(t, fourBytes(1<<bit|low)+zeros[:6000])
		}
	}
}

// 17.1: each bit turned, in the length, in the sum and in the text.
func TestNextTurnedBits(t *testing.T) {
	for _, s := range []string{"", "a", "ab", zeros[:9], mixed(40, 3), strings.Repeat("\xff", 70), mixed(300, 4)} {
		f := plainFrame(s)
		for bit := range 8 * len(f) {
			other := turned(f, bit/8, 1<<(bit%8))
			if bit >= 32 {
				checkRefused(t, other, api.ErrSum)
			}
			for _, behind := range []string{"", "x", f, zeros[:5000]} {
				if _, _, err := plainNext(other + behind); err == api.OK {
					t.Errorf("the plain count takes bit %d turned", bit)
				}
				checkAnyNext(t, other+behind)
			}
		}
	}
	f := plainFrame(mixed(4096, 5))
	for at := 8; at < len(f); at += 37 {
		checkRefused(t, turned(f, at, 1<<(at%8)), api.ErrSum)
	}
}

// 17.1: every byte of a head at each of its places.
func TestNextTurnedBytes(t *testing.T) {
	for _, s := range []string{"", "a", "a text of a record"} {
		f := plainFrame(s)
		for at := range f {
			for by := range 256 {
				checkAnyNext(t, turned(f, at, byte(by)))
				checkAnyNext(t, turned(f, at, byte(by))+zeros[:4096])
			}
		}
	}
}

// 17.1: a sum that is right of the text alone, of the text ahead of its length, or with its bytes the other way round.
func TestNextOtherSums(t *testing.T) {
	for _, s := range []string{"", "a", "ab", mixed(40, 6)} {
		length := fourBytes(uint32(len(s)))
		sum := plainSum(length + s)
		for _, other := range []uint32{plainSum(s), plainSum(s + length), ^sum, sum + 1, 0, 1<<32 - 1} {
			if other != sum {
				checkRefused(t, length+fourBytes(other)+s, api.ErrSum)
			}
		}
		lowest := string([]byte{byte(sum), byte(sum >> 8), byte(sum >> 16), byte(sum >> 24)})
		checkRefused(t, length+lowest+s, api.ErrSum)
		checkNext(t, length+fourBytes(sum)+s, s, 8+len(s))
	}
}

// 17.1: which error comes first, where two would do.
func TestNextOrder(t *testing.T) {
	for _, x := range []struct {
		s    string
		want api.Errno
	}{
		{"", api.ErrSize},
		{"\xff", api.ErrSize},
		{"\xff\xff", api.ErrSize},
		{"\xff\xff\xff", api.ErrSize},                      // too long as well, as far as it goes
		{"\xff\xff\xff\xff", api.ErrSyntax},                // cut as well
		{"\x00\x00\x10\x01", api.ErrSyntax},                // cut as well
		{"\x00\x00\x10\x00", api.ErrSize},                  // not too long
		{"\x00\x00\x00\x00", api.ErrSize},                  // no sum
		{"\x00\x00\x10\x01" + zeros[:4101], api.ErrSyntax}, // a wrong sum as well
		{"\x00\x00\x10\x01" + zeros[:4100], api.ErrSyntax},
		{"\x00\x00\x00\x02" + "sum?" + "a", api.ErrSize}, // a wrong sum as well
		{"\x00\x00\x00\x02" + "sum?" + "ab", api.ErrSum},
		{"\x00\x00\x00\x00" + "sum", api.ErrSize},
		{"\x00\x00\x00\x00" + "sum?", api.ErrSum},
	} {
		checkRefused(t, x.s, x.want)
	}
}

// 17.1, T4: what a crash leaves of a disk, 0s, is no record.
func TestNextZeros(t *testing.T) {
	for n := range 200 {
		want := api.ErrSum
		if n < 8 {
			want = api.ErrSize
		}
		checkRefused(t, zeros[:n], want)
	}
}

// 17.1, R1, T7: whatever bytes.
func TestNextOfAnything(t *testing.T) {
	for i := range 20000 {
		s := mixed(i%60, uint64(i))
		checkAnyNext(t, s)
		checkAnyNext(t, "\x00\x00\x00"+s)
		checkAnyNext(t, "\x00\x00\x00\x00\x48\x67\x4b"+s)
		checkAnyNext(t, plainFrame(s)+s)
	}
}
