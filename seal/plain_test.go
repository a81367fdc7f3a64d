package seal_test

import (
	"encoding/hex"
	"math"
	"strings"
	"testing"

	"sandglass/aead"
	"sandglass/api"
	"sandglass/hmac"
	"sandglass/mult"
	"sandglass/scalar"
	"sandglass/seal"
	"sandglass/sec1"
)

const top = math.MaxUint64

var greatest = api.Num{top, top, top, top}

// sizes are those of texts at the edges of chunks and of files.
func sizes() []int { return []int{0, 1, 255, 256, 257, 511, 512, 513, 2047, 2048} }

// mixed is a text of n bytes without a pattern, another one for each seed.
func mixed(n int, seed uint64) string {
	b := make([]byte, n)
	for i := range b {
		seed = seed*6364136223846793005 + 1442695040888963407
		b[i] = byte(seed >> 56)
	}
	return string(b)
}

// turn is a text of n bytes with every byte in its turn.
func turn(n int) string {
	b := make([]byte, n)
	for i := range b {
		b[i] = byte(i)
	}
	return string(b)
}

// texts are such of n bytes: of 0s, of 255s, with every byte in its turn, without a pattern.
func texts(n int) []string {
	return []string{strings.Repeat("\x00", n), strings.Repeat("\xff", n), turn(n), mixed(n, uint64(n)+12)}
}

// bytesOf is the text with those hexadecimal digits.
func bytesOf(digits string) string {
	b, err := hex.DecodeString(digits)
	if err != nil {
		panic(err)
	}
	return string(b)
}

// last is q - n.
func last(n uint64) api.Num { return scalar.Sub(api.Num{}, api.Num{n}) }

// beyond is q + n.
func beyond(n uint64) api.Num {
	q := scalar.Order()
	q[0] += n
	return q
}

// four is n in 4 bytes, the highest first, as the document writes a length.
func four(n int) string {
	return string([]byte{byte(n / 256 / 256 / 256 % 256), byte(n / 256 / 256 % 256), byte(n / 256 % 256), byte(n % 256)})
}

// encoded is chapter 6's Encode of a point.
func encoded(t *testing.T, p api.Point) string {
	t.Helper()
	s, err := sec1.Encode(p)
	if err != api.OK {
		t.Fatalf("Encode of %v: %d", p, err)
	}
	return s
}

// plainHead is a file's head as the document writes it.
func plainHead(t *testing.T, from api.Point, n int) string {
	t.Helper()
	return "SGL1" + encoded(t, from) + four(n)
}

// plainKey is the key of a file's chunks as the document makes it.
func plainKey(t *testing.T, shared, from, to api.Point) string {
	t.Helper()
	extracted := hmac.Extract("", encoded(t, shared)+encoded(t, from)+encoded(t, to))
	key, err := hmac.Expand(extracted, "sandglass", 32)
	if err != api.OK {
		t.Fatalf("Expand: %d", err)
	}
	return key
}

// plainPieces are the chunks of a text, not sealed: one, if it is empty.
func plainPieces(s string) []string {
	pieces := []string{""}
	for i := range len(s) {
		if i > 0 && i%256 == 0 {
			pieces = append(pieces, "")
		}
		pieces[len(pieces)-1] += s[i : i+1]
	}
	return pieces
}

// plainChunks are the chunks of a text, sealed by that key under that head.
func plainChunks(t *testing.T, key, head, s string) []string {
	t.Helper()
	var chunks []string
	for i, piece := range plainPieces(s) {
		chunk, err := aead.Seal(key, "\x00\x00\x00\x00\x00\x00\x00\x00"+four(i), piece, head)
		if err != api.OK {
			t.Fatalf("aead.Seal: %d", err)
		}
		chunks = append(chunks, chunk)
	}
	return chunks
}

// plain is Seal as the document counts it, by the layers below.
func plain(t *testing.T, p api.Point, r api.Num, s string) string {
	t.Helper()
	from := mult.Base(r)
	head := plainHead(t, from, len(s))
	key := plainKey(t, mult.Mul(r, p), from, p)
	return head + strings.Join(plainChunks(t, key, head, s), "")
}

// plainLong is Long as the document counts it, chunk by chunk.
func plainLong(n int) int {
	if n < 0 || n > 2048 {
		return 0
	}
	long := 4 + 33 + 4
	for {
		chunk := min(n, 256)
		long += chunk + 16
		n -= chunk
		if n == 0 {
			return long
		}
	}
}

// told is what Head answers.
type told struct {
	r   api.Point
	n   int
	err api.Errno
}

// plainTold is Head as the document reads a file, one condition after the other.
func plainTold(s string) told {
	if len(s) < 41 {
		return told{err: api.ErrSize}
	}
	n := 0
	for i := 37; i < 41; i++ {
		n = n*256 + int(s[i])
	}
	if s[:4] != "SGL1" || n > 2048 {
		return told{err: api.ErrSyntax}
	}
	r, err := sec1.Decode(s[4:37])
	if err != api.OK {
		return told{err: err}
	}
	if len(s) != plainLong(n) {
		return told{err: api.ErrSize}
	}
	return told{r, n, api.OK}
}

// sealed is the text sealed to k times the base.
func sealed(t *testing.T, k, r api.Num, s string) string {
	t.Helper()
	file, err := seal.Seal(mult.Base(k), r, s)
	if err != api.OK {
		t.Fatalf("Seal of %d bytes, to %x times the base, by %x: %d", len(s), k, r, err)
	}
	return file
}

// check holds Seal, Head and Open against the plain count, the numbers and the text.
func check(t *testing.T, k, r api.Num, s string) {
	t.Helper()
	p := mult.Base(k)
	want := plain(t, p, r, s)
	file, err := seal.Seal(p, r, s)
	if file != want || err != api.OK {
		t.Errorf("Seal of %d bytes, to %x times the base, by %x: %x, %d; want %x", len(s), k, r, file, err, want)
	}
	checkHead(t, want, told{mult.Base(r), len(s), api.OK})
	checkOpen(t, k, want, s, api.OK)
}

// checkHead holds what Head answers of a file.
func checkHead(t *testing.T, file string, want told) {
	t.Helper()
	r, n, err := seal.Head(file)
	if got := (told{r, n, err}); got != want {
		t.Errorf("Head of %d bytes, %x: %v; want %v", len(file), file[:min(len(file), 41)], got, want)
	}
}

// checkOpen holds what Open answers of a file.
func checkOpen(t *testing.T, k api.Num, file, want string, wantErr api.Errno) {
	t.Helper()
	if got, err := seal.Open(k, file); got != want || err != wantErr {
		t.Errorf("Open by %x of %d bytes, %x: %d bytes, %d; want %d bytes, %d", k, len(file), file[:min(len(file), 41)], len(got), err, len(want), wantErr)
	}
}

// flipped is the text with its i-th bit another one.
func flipped(s string, i int) string {
	b := []byte(s)
	b[i/8] ^= 1 << (i % 8)
	return string(b)
}
