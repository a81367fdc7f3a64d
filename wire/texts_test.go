package wire_test

import (
	"slices"
	"strings"
	"testing"

	"sandglass/api"
	"sandglass/wire"
)

// short cuts what a failure tells.
func short(s string) string { return s[:min(len(s), 80)] }

func checkTexts(t *testing.T, l []string, want string) {
	t.Helper()
	if got := wire.Texts(l); got != want {
		t.Errorf("Texts of %d: %d bytes, %q; want %d, %q", len(l), len(got), short(got), len(want), short(want))
	}
	checkRead(t, want, l)
}

func checkRead(t *testing.T, s string, want []string) {
	t.Helper()
	if got, err := wire.Read(s); !slices.Equal(got, want) || err != api.OK {
		t.Errorf("Read of %d bytes, %q: %d texts, %d; want %d", len(s), short(s), len(got), err, len(want))
	}
}

func checkNone(t *testing.T, s string) {
	t.Helper()
	if got, err := wire.Read(s); len(got) != 0 || err != api.ErrSyntax {
		t.Errorf("Read of %d bytes, %q: %d texts, %d", len(s), short(s), len(got), err)
	}
}

// checkAny holds Read of any bytes against the plain count, and that what is read is written just so.
func checkAny(t *testing.T, s string) {
	t.Helper()
	want, is := plainRead(s)
	if !is {
		checkNone(t, s)
		return
	}
	checkTexts(t, want, s)
}

// The chapter's example.
func TestExample(t *testing.T) {
	if got := wire.Text("ab"); got != string([]byte{0, 0, 0, 2, 'a', 'b'}) {
		t.Errorf("%q", got)
	}
}

// 16.1: Text of every length whose bytes differ in number or in place.
func TestText(t *testing.T) {
	for _, x := range []struct {
		n    int
		head string
	}{
		{0, "\x00\x00\x00\x00"},
		{1, "\x00\x00\x00\x01"},
		{2, "\x00\x00\x00\x02"},
		{127, "\x00\x00\x00\x7f"},
		{128, "\x00\x00\x00\x80"},
		{255, "\x00\x00\x00\xff"},
		{256, "\x00\x00\x01\x00"},
		{257, "\x00\x00\x01\x01"},
		{4096, "\x00\x00\x10\x00"},
		{65535, "\x00\x00\xff\xff"},
		{65536, "\x00\x01\x00\x00"},
		{0x010203, "\x00\x01\x02\x03"},
		{1<<24 - 1, "\x00\xff\xff\xff"},
		{1 << 24, "\x01\x00\x00\x00"},
		{0x03020105, "\x03\x02\x01\x05"},
	} {
		s := strings.Repeat("\xa5z\x00", x.n/3) + "\x00\x01\x02"[:x.n%3]
		if got := wire.Text(s); got != x.head+s {
			t.Errorf("Text of %d bytes: %d bytes, %q", x.n, len(got), short(got))
		}
		checkRead(t, x.head+s, []string{s})
		checkTexts(t, []string{s, "a", s}, x.head+s+"\x00\x00\x00\x01a"+x.head+s)
	}
}

// 16.1: Text of all lengths up to some, and of bytes of all kinds, which need be no letters.
func TestTextBytes(t *testing.T) {
	for n := range 1200 {
		s := mixed(n, uint64(n))
		if got := wire.Text(s); got != plainText(s) {
			t.Errorf("Text of %d bytes: %q", n, short(got))
		}
		checkRead(t, plainText(s), []string{s})
	}
	for v := range 256 {
		s := string([]byte{byte(v)})
		if got := wire.Text(s); got != "\x00\x00\x00\x01"+s {
			t.Errorf("Text of byte %d: %q", v, got)
		}
		checkTexts(t, []string{s, s + s}, plainTexts(s, s+s))
	}
	for _, s := range []string{"é", "\u2028", "\xc3", "\xff\xfe", "\x00\x00\x00\x02ab"} {
		checkTexts(t, []string{s}, plainText(s))
	}
}

// 16.1: Texts of none, of one and of many, with empty ones at each place.
func TestTexts(t *testing.T) {
	checkTexts(t, nil, "")
	checkTexts(t, []string{}, "")
	checkTexts(t, []string{""}, "\x00\x00\x00\x00")
	checkTexts(t, []string{"", ""}, "\x00\x00\x00\x00\x00\x00\x00\x00")
	checkTexts(t, []string{"a"}, "\x00\x00\x00\x01a")
	checkTexts(t, []string{"a", "bc", ""}, "\x00\x00\x00\x01a\x00\x00\x00\x02bc\x00\x00\x00\x00")
	checkTexts(t, []string{"", "a", "", "bc"}, "\x00\x00\x00\x00\x00\x00\x00\x01a\x00\x00\x00\x00\x00\x00\x00\x02bc")
	for n := range 300 {
		var l []string
		for i := range n {
			l = append(l, mixed(i*7%11, uint64(n*i)))
		}
		checkTexts(t, l, plainTexts(l...))
		checkTexts(t, make([]string, n), strings.Repeat("\x00\x00\x00\x00", n))
	}
	checkTexts(t, make([]string, 100000), strings.Repeat("\x00\x00\x00\x00", 100000))
}

// 16.1: every list of up to four texts out of some is told apart from every other one.
func TestTextsApart(t *testing.T) {
	seen := map[string][]string{}
	lists := [][]string{nil}
	for from := 0; from < len(lists); from++ {
		s := wire.Texts(lists[from])
		if ahead, is := seen[s]; is {
			t.Errorf("%q and %q are both %q", ahead, lists[from], s)
		}
		seen[s] = lists[from]
		checkTexts(t, lists[from], plainTexts(lists[from]...))
		if len(lists[from]) == 4 {
			continue
		}
		for _, text := range []string{"", "\x00", "\x00\x00\x00\x00", "\x00\x00\x00\x01", "a", "\x00\x00\x00\x01a"} {
			lists = append(lists, append(slices.Clone(lists[from]), text))
		}
	}
}

// 16.1: of no byte there are no texts, and no error.
func TestReadOfNothing(t *testing.T) {
	if l, err := wire.Read(""); len(l) != 0 || err != api.OK {
		t.Errorf("%q, %d", l, err)
	}
}

// 16.1: a cut of texts is read where it is one behind a text, and refused elsewhere.
func TestReadCuts(t *testing.T) {
	l := []string{"", "a", "bc", "", "\x00\x00\x00\x00", mixed(300, 1), ""}
	s := plainTexts(l...)
	whole := map[int]int{}
	for n := range len(l) + 1 {
		whole[len(plainTexts(l[:n]...))] = n
	}
	for cut := range len(s) + 1 {
		if n, is := whole[cut]; is {
			checkRead(t, s[:cut], l[:n])
		} else {
			checkNone(t, s[:cut])
		}
	}
	for v := range 256 {
		checkNone(t, s+string([]byte{byte(v)}))
		checkNone(t, s+string([]byte{0, byte(v)}))
		checkNone(t, s+string([]byte{0, 0, byte(v)}))
	}
}

// 16.1: one to three bytes are no length.
func TestReadShort(t *testing.T) {
	for v := range 256 {
		b := string([]byte{byte(v)})
		for _, s := range []string{b, b + b, b + b + b, "\x00" + b, "\x00\x00" + b} {
			checkNone(t, s)
			checkNone(t, "\x00\x00\x00\x00"+s)
			checkNone(t, "\x00\x00\x00\x01a"+s)
		}
	}
}

// 16.1: lengths that are too great or too small, by one or by more.
func TestReadLengths(t *testing.T) {
	for n := range 600 {
		s := strings.Repeat("\xff", n)
		for told := range 600 {
			head := plainText(strings.Repeat("x", told))[:4]
			if told == n {
				checkRead(t, head+s, []string{s})
			} else { // bytes 255 that are left over are no length of anything
				checkNone(t, head+s)
			}
		}
	}
	checkNone(t, "\x00\x00\x00\x03ab")
	checkNone(t, "\x00\x00\x00\x01ab")
	checkNone(t, "\x00\x00\x00\x01a\x00\x00\x00\x03bc")
	checkNone(t, "\x00\x00\x00\x01a\x00\x00\x00\x01bc")
	checkNone(t, "\x00\x00\x00\x02a\x00\x00\x00\x01b")
	// Too small by five: there is a text more.
	checkRead(t, "\x00\x00\x00\x02ab\x00\x00\x00\x01c", []string{"ab", "c"})
	// Too great by five: it takes the next one.
	checkRead(t, "\x00\x00\x00\x07ab\x00\x00\x00\x01c", []string{"ab\x00\x00\x00\x01c"})
}

// 16.1: lengths beyond every text, with the highest bit set or all.
func TestReadGreatLengths(t *testing.T) {
	for _, head := range []string{"\xff\xff\xff\xff", "\xff\xff\xff\xfc", "\xff\xff\xff\xfb", "\x80\x00\x00\x00", "\x80\x00\x00\x01", "\x80\x00\x00\x04", "\x7f\xff\xff\xff", "\x7f\xff\xff\xfc", "\x40\x00\x00\x00", "\x01\x00\x00\x00", "\x01\x00\x00\x01", "\x00\x01\x00\x00", "\x00\x01\x00\x01", "\x00\x00\x01\x00", "\x00\x00\x01\x01"} {
		for _, rest := range []string{"", "a", "abcd", "\x00\x00\x00\x00", "\x00\x00\x00\x01a", strings.Repeat("x", 255)} {
			checkNone(t, head+rest)
			checkNone(t, "\x00\x00\x00\x00"+head+rest)
			checkNone(t, "\x00\x00\x00\x01a"+head+rest)
		}
	}
}

// 16.1, T7: every row of up to nine bytes out of some.
func TestReadOfSmallTexts(t *testing.T) {
	const letters = "\x00\x01\x02\x80"
	row := make([]byte, 0, 9)
	var grow func()
	grow = func() {
		checkAny(t, string(row))
		if len(row) == cap(row) {
			return
		}
		for i := range len(letters) {
			row = append(row, letters[i])
			grow()
			row = row[:len(row)-1]
		}
	}
	grow()
}

// 16.1, T7: whatever bytes.
func TestReadOfAnything(t *testing.T) {
	for i := range 2000 {
		checkAny(t, mixed(i%50, uint64(i)))
	}
	for _, s := range noise(40000, 2) {
		checkAny(t, s)
	}
	for _, s := range turned(plainTexts("", "ab", "\x00\x00\x00", "", "c")) {
		checkAny(t, s)
	}
}
