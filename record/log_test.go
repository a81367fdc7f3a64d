package record_test

import (
	"slices"
	"strings"
	"testing"

	"sandglass/api"
	"sandglass/record"
)

func checkLog(t *testing.T, l []string, want string) {
	t.Helper()
	if got, err := record.Log(l); got != want || err != api.OK {
		t.Errorf("Log of %d texts: %d bytes, %q, %d; want %d, %q", len(l), len(got), short(got), err, len(want), short(want))
	}
}

func checkNoLog(t *testing.T, l []string) {
	t.Helper()
	if got, err := record.Log(l); got != "" || err != api.ErrSize {
		t.Errorf("Log of %d texts: %d bytes, %d", len(l), len(got), err)
	}
}

func checkPrefix(t *testing.T, s string, want []string, size int) {
	t.Helper()
	if got, n := record.Prefix(s); !slices.Equal(got, want) || n != size {
		t.Errorf("Prefix of %d bytes, %q: %d texts, %d; want %d, %d", len(s), short(s), len(got), n, len(want), size)
	}
}

// checkAnyPrefix holds Prefix of any bytes against the plain count, and that what is read is written just so.
func checkAnyPrefix(t *testing.T, s string) {
	t.Helper()
	want, n := plainPrefix(s)
	checkPrefix(t, s, want, n)
	if n <= api.MaxLog {
		checkLog(t, want, s[:n])
	}
}

// someShort are lists whose logs are short; someLists are those and longer ones.
func someShort() [][]string {
	return [][]string{
		nil,
		{""},
		{"a"},
		{"", ""},
		{"", "a", ""},
		{"ab", "", "c", zeros[:20], "", "\xff"},
		{mixed(30, 1), mixed(31, 2), mixed(5, 3)},
		{mixed(300, 4), "", mixed(256, 5)},
	}
}

func someLists() [][]string {
	return append(someShort(),
		someTexts(),
		slices.Repeat([]string{""}, 100),
		[]string{zeros[:4096], "", mixed(4096, 6), "a"},
		slices.Repeat([]string{mixed(4096, 7)}, 15),
	)
}

// 17.1: logs that were written by hand.
func TestLogBytes(t *testing.T) {
	checkLog(t, nil, "")
	checkLog(t, []string{""}, "\x00\x00\x00\x00\x48\x67\x4b\xc7")
	checkLog(t, []string{"", "ab", "a"}, "\x00\x00\x00\x00\x48\x67\x4b\xc7"+"\x00\x00\x00\x02\x0b\x86\x70\x63"+"ab"+"\x00\x00\x00\x01\xc5\x7d\xfe\x23"+"a")
}

// 17.1: each Frame, one behind the other, and back again.
func TestLog(t *testing.T) {
	for _, l := range someLists() {
		all := ""
		for _, s := range l {
			f, _ := record.Frame(s)
			all += f
		}
		checkLog(t, l, all)
		checkLog(t, l, plainLog(l...))
		checkPrefix(t, all, l, len(all))
	}
}

// 17.1: a text that is too long, at each place of a list.
func TestLogTooLong(t *testing.T) {
	for _, n := range []int{4097, 4098, 65536, 1 << 17} {
		long := strings.Repeat("x", n)
		checkNoLog(t, []string{long})
		for _, l := range someShort() {
			for at := range len(l) + 1 {
				checkNoLog(t, slices.Insert(slices.Clone(l), at, long))
			}
		}
	}
	checkLog(t, []string{"", zeros[:4096], ""}, plainLog("", zeros[:4096], ""))
	checkNoLog(t, []string{"", zeros[:4097], ""})
	checkNoLog(t, append(slices.Repeat([]string{""}, 10000), zeros[:4097]))
}

// 17.1: frames of 65535, 65536 and 65537 bytes in all, of few long texts and of many short ones.
func TestLogFull(t *testing.T) {
	long := slices.Repeat([]string{mixed(4096, 8)}, 15) // 61560 bytes
	empty := slices.Repeat([]string{""}, 8191)          // 65528 bytes
	with := func(l []string, more ...string) []string { return slices.Concat(l, more) }
	for _, l := range [][]string{
		with(long, zeros[:3967]),
		with(long, zeros[:3968]),
		with(long, "", "", zeros[:3952]),
		with(long, zeros[:3960], ""),
		with(empty, ""),
		with(empty[:8190], zeros[:7]),
		with(empty[:8190], zeros[:8]),
		append([]string{zeros[:8]}, empty[:8190]...),
	} {
		all := plainLog(l...)
		if len(all) != 65535 && len(all) != 65536 {
			t.Errorf("%d bytes", len(all))
		}
		checkLog(t, l, all)
		checkPrefix(t, all, l, len(all))
	}
	for _, l := range [][]string{
		with(long, zeros[:3969]),
		with(long, zeros[:3970]),
		with(long, zeros[:3961], ""),
		with(long, zeros[:3968], ""),
		with(long, zeros[:4096]),
		with(long, zeros[:3968], zeros[:4096]),
		with(long, zeros[:4097]),
		with(empty, "a"),
		with(empty, "", ""),
		with(empty, "", "", ""),
		with(empty[:8190], zeros[:9]),
		append([]string{zeros[:9]}, empty[:8190]...),
		with(empty, empty...),
		with(long, long...),
	} {
		checkNoLog(t, l)
	}
}

// 17.1: bytes that begin with no frame, and none.
func TestPrefixOfNone(t *testing.T) {
	for n := range 100 {
		checkPrefix(t, zeros[:n], nil, 0)
		checkPrefix(t, strings.Repeat("\xff", n), nil, 0)
		checkPrefix(t, mixed(n, 9), nil, 0)
	}
	f := plainFrame("ab")
	for _, s := range []string{"\x00" + f, f[1:] + f, f[:9], f[:9] + "c" + f, plainFrame(zeros[:4097]) + f, "\x00\x00\x10\x01" + f} {
		checkPrefix(t, s, nil, 0)
	}
}

// 17.1, T4: each cut of a log has the texts that are whole, and their bytes alone.
func TestPrefixCuts(t *testing.T) {
	for _, l := range someShort() {
		s := plainLog(l...)
		whole, size := 0, 0
		for cut := range len(s) + 1 {
			if whole < len(l) && cut == size+8+len(l[whole]) {
				whole, size = whole+1, cut
			}
			checkPrefix(t, s[:cut], l[:whole], size)
			checkAnyPrefix(t, s[:cut]+"\xff\xff\xff\xff")
		}
		if whole != len(l) {
			t.Errorf("%d of %d texts", whole, len(l))
		}
	}
}

// 17.1, T4: a log whose end is 0s, as a crash leaves it, has the texts ahead of them, and one that ends in 0s itself.
func TestPrefixTorn(t *testing.T) {
	l := []string{mixed(30, 1), "ab", mixed(50, 2), "", mixed(20, 3)}
	s := plainLog(l...)
	for from := range len(s) {
		torn := s[:from] + zeros[:len(s)-from]
		checkAnyPrefix(t, torn)
		got, n := record.Prefix(torn)
		if len(got) > len(l) || !slices.Equal(got, l[:len(got)]) || n < from-58 {
			t.Errorf("0s from %d on: %d texts, %d", from, len(got), n)
		}
	}
}

// 17.1: each byte of a log turned leaves the texts ahead of the one that it is of.
func TestPrefixTurned(t *testing.T) {
	for _, l := range someShort() {
		s := plainLog(l...)
		text, from := 0, 0
		for at := range s {
			if at == from+8+len(l[text]) {
				text, from = text+1, at
			}
			for _, by := range []byte{1, 2, 0x10, 0x80, 0xff} {
				checkPrefix(t, turned(s, at, by), l[:text], from)
				checkAnyPrefix(t, turned(s, at, by)+s)
			}
		}
	}
}

// 17.1: the log of many, cut and turned at some places.
func TestPrefixOfMany(t *testing.T) {
	l := slices.Repeat([]string{mixed(4096, 4)}, 15)
	s := plainLog(l...)
	for _, at := range []int{0, 3, 4, 7, 8, 4103, 4104, 4107, 4112, 8207, 8208, 30000, 57455, 57456, 61559} {
		checkPrefix(t, turned(s, at, 0x40), l[:at/4104], at/4104*4104)
		checkPrefix(t, s[:at], l[:at/4104], at/4104*4104)
	}
	// Beyond what Log gives, texts are read all the same.
	more := slices.Repeat(l, 4)
	checkPrefix(t, strings.Repeat(s, 4), more, 4*len(s))
	checkPrefix(t, strings.Repeat(plainFrame(""), 20000)+"\x00", slices.Repeat([]string{""}, 20000), 160000)
}

// 17.1, R1, T7: whatever bytes, at the front and behind frames.
func TestPrefixOfAnything(t *testing.T) {
	for i := range 10000 {
		s := mixed(i%50, uint64(i))
		checkAnyPrefix(t, s)
		checkAnyPrefix(t, plainLog(s, "")+s)
		checkAnyPrefix(t, "\x00\x00\x00\x00\x48\x67\x4b\xc7\x00\x00\x00"+s)
	}
}
