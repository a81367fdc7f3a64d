package record_test

import (
	"encoding/binary"
	"hash/crc32"
	"slices"
	"strings"
	"testing"

	"sandglass/api"
)

// plainSum is the library's, of the same polynomial.
func plainSum(s string) uint32 {
	return crc32.Checksum([]byte(s), crc32.MakeTable(0x82F63B78))
}

// fourBytes are a number's, the highest first, by the library.
func fourBytes(n uint32) string { return string(binary.BigEndian.AppendUint32(nil, n)) }

// plainFrame is the document's, of a text of any length.
func plainFrame(s string) string {
	length := fourBytes(uint32(len(s)))
	return length + fourBytes(plainSum(length+s)) + s
}

func plainLog(l ...string) string {
	all := ""
	for _, s := range l {
		all += plainFrame(s)
	}
	return all
}

// plainNext counts in 64 bits, and says of each refusal by itself when it applies; the document's row of them decides.
func plainNext(s string) (string, int, api.Errno) {
	if len(s) < 4 {
		return "", 0, api.ErrSize
	}
	length := int64(s[0])*(1<<24) + int64(s[1])*(1<<16) + int64(s[2])*(1<<8) + int64(s[3])
	tooLong, cut := length > 4096, int64(len(s)) < 8+length
	switch {
	case tooLong:
		return "", 0, api.ErrSyntax
	case cut:
		return "", 0, api.ErrSize
	case plainSum(s[:4]+s[8:8+length]) != binary.BigEndian.Uint32([]byte(s[4:8])):
		return "", 0, api.ErrSum
	}
	return s[8 : 8+length], int(8 + length), api.OK
}

func plainPrefix(s string) ([]string, int) {
	var l []string
	rest := s
	for {
		text, n, err := plainNext(rest)
		if err != api.OK {
			return l, len(s) - len(rest)
		}
		l, rest = append(l, text), rest[n:]
	}
}

// mixed is n bytes without a pattern, others for each seed.
func mixed(n int, seed uint64) string {
	b := make([]byte, n)
	for i := range b {
		seed = seed*6364136223846793005 + 1442695040888963407
		b[i] = byte(seed >> 56)
	}
	return string(b)
}

// turned is s with the bits of by turned in the byte at.
func turned(s string, at int, by byte) string {
	b := []byte(s)
	b[at] ^= by
	return string(b)
}

// short cuts what a failure tells.
func short(s string) string { return s[:min(len(s), 60)] }

// zeros is a long text, so that a part of it costs nothing.
var zeros = strings.Repeat("\x00", 1<<17)

// The plain count is held against bytes that were written by hand, and RFC 3720's examples of sums.
func TestPlainCount(t *testing.T) {
	for _, x := range []struct{ got, want string }{
		{fourBytes(0x01020304), "\x01\x02\x03\x04"},
		{plainFrame(""), "\x00\x00\x00\x00\x48\x67\x4b\xc7"},
		{plainFrame("")[:4] + fourBytes(plainSum("123456789")), "\x00\x00\x00\x00\xe3\x06\x92\x83"},
		{plainFrame(zeros[:258])[:4], "\x00\x00\x01\x02"},
		{plainFrame("ab")[8:], "ab"},
		{plainLog("ab", ""), plainFrame("ab") + "\x00\x00\x00\x00\x48\x67\x4b\xc7"},
	} {
		if x.got != x.want {
			t.Errorf("%q; want %q", x.got, x.want)
		}
	}
	for _, x := range rfcSums() {
		if got := plainSum(x.text); got != x.sum {
			t.Errorf("sum of %q: %#x; want %#x", short(x.text), got, x.sum)
		}
	}
	s := plainLog("ab", "", "c")
	if l, n := plainPrefix(s + "\x00"); !slices.Equal(l, []string{"ab", "", "c"}) || n != len(s) {
		t.Errorf("%q, %d", l, n)
	}
}
