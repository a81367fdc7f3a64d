package record_test

import (
	"slices"
	"strings"
	"testing"
	"unsafe"

	"sandglass/api"
	"sandglass/record"
)

// shared tells whether two texts have a byte of memory in common.
func shared(a, b string) bool {
	if a == "" || b == "" {
		return false
	}
	from, other := uintptr(unsafe.Pointer(unsafe.StringData(a))), uintptr(unsafe.Pointer(unsafe.StringData(b)))
	return from < other+uintptr(len(b)) && other < from+uintptr(len(a))
}

// checkApart holds that no two of the texts share memory.
func checkApart(t *testing.T, what string, l ...string) {
	t.Helper()
	for i := range l {
		for k := range i {
			if shared(l[i], l[k]) {
				t.Errorf("%s: %q and %q share memory", what, short(l[k]), short(l[i]))
			}
		}
	}
}

// R4: answers share no memory with what was handed in, nor with one another.
func TestNewMemory(t *testing.T) {
	for _, body := range []string{strings.Clone("a"), strings.Repeat("b", 100), strings.Repeat("c", 4096)} {
		f, _ := record.Frame(body)
		g, _ := record.Frame(body)
		one, _, _ := record.Next(f)
		two, _, _ := record.Next(f)
		checkApart(t, "Frame and Next", body, f, g, one, two)

		for _, l := range [][]string{{body}, {body, "", body}} {
			s, _ := record.Log(l)
			again, _ := record.Log(l)
			texts, _ := record.Prefix(s)
			others, _ := record.Prefix(s)
			checkApart(t, "Log and Prefix", slices.Concat([]string{body, s, again}, texts, others)...)
		}
	}
	f, _ := record.Frame("")
	g, _ := record.Frame("")
	s, _ := record.Log([]string{""})
	checkApart(t, "Frame of no byte", f, g, s)
}

// R4: a list that is handed in is not changed, with what lies behind its end, which has no say.
func TestHandedInStays(t *testing.T) {
	all := []string{"", "a", "bc", "", zeros[:4097], "more"}
	for n := range len(all) + 1 {
		l := slices.Clone(all)
		if n <= 4 {
			checkLog(t, l[:n], plainLog(all[:n]...))
		} else {
			checkNoLog(t, l[:n])
		}
		if !slices.Equal(l, all) {
			t.Errorf("the list of %d became another one", n)
		}
	}
}

// R4: a list that was answered stays when another one is asked for and written over, and may be written over itself.
func TestAnswersApart(t *testing.T) {
	l := []string{"", "a", "bc", "def", ""}
	s := plainLog(l...)
	one, _ := record.Prefix(s)
	two, _ := record.Prefix(s)
	for i := range two[:cap(two)] {
		two[:cap(two)][i] = "x"
	}
	if !slices.Equal(one, l) {
		t.Errorf("the answer became %q", one)
	}
	clear(one[:cap(one)])
	checkPrefix(t, s, l, len(s))
}

// R4: nothing that was handed in is kept or changed: it may be written over behind the call.
func TestNothingKept(t *testing.T) {
	written := func(s string) ([]byte, string) {
		b := []byte(s)
		return b, unsafe.String(&b[0], len(b))
	}
	text, textText := written("a text")
	frame, frameText := written(plainFrame("a frame"))
	log, logText := written(plainLog("ab", "", "cde"))

	sum := record.Sum(textText)
	f, _ := record.Frame(textText)
	made, _ := record.Log([]string{textText, textText})
	next, n, _ := record.Next(frameText)
	l, size := record.Prefix(logText)
	if string(text) != "a text" || string(frame) != plainFrame("a frame") || string(log) != plainLog("ab", "", "cde") {
		t.Errorf("%q, %q, %q", text, frame, log)
	}
	for _, b := range [][]byte{text, frame, log} {
		clear(b)
	}

	if sum != plainSum("a text") || f != plainFrame("a text") || made != plainLog("a text", "a text") {
		t.Errorf("%#x, %q, %q", sum, f, made)
	}
	if next != "a frame" || n != 15 || !slices.Equal(l, []string{"ab", "", "cde"}) || size != 29 {
		t.Errorf("%q, %d, %q, %d", next, n, l, size)
	}
}

// R5: the same arguments have the same answer again, behind other calls, refused ones among them.
func TestSameAgain(t *testing.T) {
	for range 3 {
		checkSum(t, "123456789", 0xE3069283)
		checkSum(t, "", 0)
		for _, l := range someShort() {
			s := plainLog(l...)
			checkLog(t, l, s)
			checkNoLog(t, append(slices.Clone(l), zeros[:4097]))
			checkPrefix(t, s+"\x00", l, len(s))
			checkPrefix(t, "\x00"+s, nil, 0)
			checkAnyNext(t, s)
		}
		checkFrame(t, "", "\x00\x00\x00\x00\x48\x67\x4b\xc7")
		checkRefused(t, "\x00\x00\x00\x00\x48\x67\x4b\xc8", api.ErrSum)
		checkNext(t, "\x00\x00\x00\x00\x48\x67\x4b\xc7", "", 8)
		checkRefused(t, "\x00\x00\x10\x01", api.ErrSyntax)
		checkRefused(t, "\x00\x00\x10\x00", api.ErrSize)
	}
}

// R3: a list that is empty may be nil or of length 0.
func TestEmpty(t *testing.T) {
	for _, l := range [][]string{nil, {}, make([]string, 3)[:0]} {
		checkLog(t, l, "")
	}
}
