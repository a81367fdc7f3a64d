package wire_test

import (
	"encoding/binary"
	"math"
	"slices"
	"strings"
	"testing"

	"sandglass/api"
)

// plainText and plainTexts are the document's, by the library.
func plainText(s string) string {
	return string(binary.BigEndian.AppendUint32(nil, uint32(len(s)))) + s
}

func plainTexts(l ...string) string {
	all := ""
	for _, s := range l {
		all += plainText(s)
	}
	return all
}

// plainRead reads the texts, each length as a number of 64 bits.
func plainRead(s string) ([]string, bool) {
	var l []string
	for at := int64(0); at < int64(len(s)); {
		if at+4 > int64(len(s)) {
			return nil, false
		}
		end := at + 4 + int64(s[at])*(1<<24) + int64(s[at+1])*(1<<16) + int64(s[at+2])*(1<<8) + int64(s[at+3])
		if end > int64(len(s)) {
			return nil, false
		}
		l = append(l, s[at+4:end])
		at = end
	}
	return l, true
}

func isCommand(c api.Command) bool {
	key := c.Kind == 1 && len(c.Name) == 0 && len(c.Body) == 33
	put := c.Kind == 2 && len(c.Name) >= 1 && len(c.Name) <= 16 && len(c.Body) <= 4096
	prune := c.Kind == 3 && len(c.Name)+len(c.Body) == 0
	return c.Epoch >= 0 && c.Epoch <= 63 && (key || put || prune)
}

func isWord(w api.Word) bool {
	proposal := w.Kind == 1 && w.Valid >= -1 && w.Valid <= w.Round-1 && len(w.Value) >= 1
	vote := (w.Kind == 2 || w.Kind == 3) && w.Valid == 0
	return w.From >= 1 && w.From <= 7 && w.Round >= 0 && w.Round <= 63 && len(w.Value) <= 4096 && (proposal || vote)
}

// plainCommand and plainWord are the bytes of one that may be.
func plainCommand(c api.Command) string {
	return plainTexts(string([]byte{byte(c.Kind)}), string([]byte{byte(c.Epoch)}), c.Name, c.Body)
}

func plainWord(w api.Word) string {
	return plainTexts(string([]byte{byte(w.Kind)}), string([]byte{byte(w.From)}), string([]byte{byte(w.Round)}), string([]byte{byte(w.Valid + 1)}), w.Value)
}

// bytesOf answers the numbers of texts of a byte each; false, if one is of none or of more.
func bytesOf(l []string) ([]int, bool) {
	var numbers []int
	for _, s := range l {
		if len(s) != 1 {
			return nil, false
		}
		numbers = append(numbers, int(s[0]))
	}
	return numbers, true
}

// plainReadCommand and plainReadWord answer the one whose bytes s is; false, if there is none.
func plainReadCommand(s string) (api.Command, bool) {
	l, is := plainRead(s)
	if !is || len(l) != 4 {
		return api.Command{}, false
	}
	n, is := bytesOf(l[:2])
	if !is || !isCommand(api.Command{Kind: n[0], Epoch: n[1], Name: l[2], Body: l[3]}) {
		return api.Command{}, false
	}
	return api.Command{Kind: n[0], Epoch: n[1], Name: l[2], Body: l[3]}, true
}

func plainReadWord(s string) (api.Word, bool) {
	l, is := plainRead(s)
	if !is || len(l) != 5 {
		return api.Word{}, false
	}
	n, is := bytesOf(l[:4])
	if !is || !isWord(api.Word{Kind: n[0], From: n[1], Round: n[2], Valid: n[3] - 1, Value: l[4]}) {
		return api.Word{}, false
	}
	return api.Word{Kind: n[0], From: n[1], Round: n[2], Valid: n[3] - 1, Value: l[4]}, true
}

// mixed is n bytes without a pattern, others for each seed.
func mixed(n int, seed uint64) string {
	b := make([]byte, n)
	for i := range b {
		seed = seed*6364136223846793005 + 1442695040888963407
		b[i] = byte(seed >> 56)
	}
	return string(b)
}

// others are all ints near the edges that a field could have, or that a byte, 16 or 32 bits would make one of.
func others() []int {
	l := []int{math.MinInt, math.MinInt + 1, math.MinInt + 2, math.MaxInt - 1, math.MaxInt}
	for _, edge := range []int{0, 64, 128, 256, 512, 1 << 16, 1 << 31, 1 << 32, -256, -1 << 16, -1 << 31, -1 << 32} {
		for n := edge - 4; n <= edge+9; n++ {
			l = append(l, n)
		}
	}
	slices.Sort(l)
	return slices.Compact(l)
}

// turned are s's texts with one byte another one, one missing and one more, at each place.
func turned(s string) []string {
	var l []string
	for i := range s {
		l = append(l, s[:i]+s[i+1:])
		for v := range 256 {
			l = append(l, s[:i]+string([]byte{byte(v)})+s[i+1:])
		}
		for _, v := range []string{"\x00", "\x01", "a", "\xff"} {
			l = append(l, s[:i]+v+s[i:])
		}
	}
	return l
}

// noise are texts of bytes that lengths are made of.
func noise(count int, seed uint64) []string {
	var l []string
	for i := range count {
		b := []byte(mixed(i%40, seed+uint64(i)))
		for k := range b {
			b[k] = "\x00\x00\x00\x00\x00\x01\x01\x02\x03\x04\x21\xff"[b[k]%12]
		}
		l = append(l, string(b))
	}
	return l
}

// The plain count is held against bytes that were written by hand.
func TestPlainCount(t *testing.T) {
	for _, x := range []struct{ got, want string }{
		{plainText(""), "\x00\x00\x00\x00"},
		{plainText(strings.Repeat("x", 258))[:5], "\x00\x00\x01\x02x"},
		{plainTexts(), ""},
		{plainTexts("a", "", "bc"), "\x00\x00\x00\x01a\x00\x00\x00\x00\x00\x00\x00\x02bc"},
		{plainCommand(api.Command{Kind: 2, Epoch: 63, Name: "n", Body: "bo"}), "\x00\x00\x00\x01\x02\x00\x00\x00\x01\x3f\x00\x00\x00\x01n\x00\x00\x00\x02bo"},
		{plainWord(api.Word{Kind: 1, From: 7, Round: 5, Valid: -1, Value: "v"}), "\x00\x00\x00\x01\x01\x00\x00\x00\x01\x07\x00\x00\x00\x01\x05\x00\x00\x00\x01\x00\x00\x00\x00\x01v"},
	} {
		if x.got != x.want {
			t.Errorf("%q; want %q", x.got, x.want)
		}
	}
	if l, is := plainRead("\x00\x00\x00\x01a\x00\x00\x00\x00"); !is || !slices.Equal(l, []string{"a", ""}) {
		t.Errorf("%q", l)
	}
	for _, s := range []string{"\x00", "\x00\x00\x00\x01", "\x80\x00\x00\x00", "\x00\x00\x00\x00a"} {
		if l, is := plainRead(s); is {
			t.Errorf("%q: %q", s, l)
		}
	}
}
