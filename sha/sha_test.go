package sha_test

import (
	"crypto/sha256"
	"encoding/hex"
	"math"
	"strings"
	"testing"

	"sandglass/sha"
)

// texts are such of n bytes: of 0s, of 255s, with every byte in its turn, and without a pattern.
func texts(n int) []string {
	turn, mixed := make([]byte, n), make([]byte, n)
	seed := uint64(n) + 7
	for i := range n {
		turn[i] = byte(i)
		seed = seed*6364136223846793005 + 1442695040888963407
		mixed[i] = byte(seed >> 56)
	}
	return []string{strings.Repeat("\x00", n), strings.Repeat("\xff", n), string(turn), string(mixed)}
}

// check holds the sum of s against the library's.
func check(t *testing.T, s string) {
	t.Helper()
	want := sha256.Sum256([]byte(s))
	if got := sha.Sum(s); got != string(want[:]) {
		t.Errorf("Sum of %d bytes that begin with %x: %x; want %x", len(s), s[:min(16, len(s))], got, want)
	}
}

// 7.1: the document's examples, and those of FIPS 180-4.
func TestExamples(t *testing.T) {
	for _, c := range []struct{ s, want string }{
		{"", "e3b0c44298fc1c149afbf4c8996fb92427ae41e4649b934ca495991b7852b855"},
		{"abc", "ba7816bf8f01cfea414140de5dae2223b00361a396177a9cb410ff61f20015ad"},
		{"abcdbcdecdefdefgefghfghighijhijkijkljklmklmnlmnomnopnopq", "248d6a61d20638b8e5c026930c3e6039a33ce45964ff2167f6ecedd419db06c1"},
		{"abcdefghbcdefghicdefghijdefghijkefghijklfghijklmghijklmnhijklmnoijklmnopjklmnopqklmnopqrlmnopqrsmnopqrstnopqrstu", "cf5b16a778af8380036ce59e7b0492370b249b11e8f07a51afac45037afee9d1"},
		{strings.Repeat("a", 1000000), "cdc76e5c9914fb9281a1c7e284d73e67f1809a48a497200e046d39ccc7112cd0"},
	} {
		if got := hex.EncodeToString([]byte(sha.Sum(c.s))); got != c.want {
			t.Errorf("Sum of %d bytes that begin with %q: %s; want %s", len(c.s), c.s[:min(16, len(c.s))], got, c.want)
		}
	}
}

// 7.1: texts of every length up to some blocks, so that the mark and the length stand at every place.
func TestEveryLength(t *testing.T) {
	for n := range 700 {
		for _, s := range texts(n) {
			check(t, s)
		}
	}
}

// 7.1: texts of one byte, each of them, alone and again and again.
func TestEveryByte(t *testing.T) {
	for b := range 256 {
		one := string([]byte{byte(b)})
		for _, n := range []int{1, 2, 3, 4, 55, 56, 63, 64, 65, 119, 120, 128} {
			check(t, strings.Repeat(one, n))
		}
	}
}

// 7.1: a text with one bit altered, at every place of its blocks.
func TestEveryBit(t *testing.T) {
	const n = 119
	seen := map[string]bool{sha.Sum(strings.Repeat("\x00", n)): true}
	for i := range n * 8 {
		b := make([]byte, n)
		b[i/8] = 1 << (i % 8)
		check(t, string(b))
		seen[sha.Sum(string(b))] = true
	}
	if len(seen) != n*8+1 {
		t.Errorf("%d texts have %d sums", n*8+1, len(seen))
	}
}

// 7.1: long texts, at the edges of blocks and away from them.
func TestLong(t *testing.T) {
	for _, n := range []int{1 << 12, 1<<13 - 1, 1<<13 + 1, 1<<13 - 8, 1<<13 - 9, 1 << 16, 1<<16 + 55, 1<<16 + 56, 100003, 1 << 20} {
		for _, s := range texts(n) {
			check(t, s)
		}
	}
}

// 7.1: the length in bits has 64 of them: a text whose length in bits has more than 32.
func TestVeryLong(t *testing.T) {
	if testing.Short() {
		t.Skip("a text of half a gigabyte")
	}
	const piece, times = 1 << 20, 1 << 9
	// The library is handed the text piece by piece, so that its bytes aren't held twice.
	library := sha256.New()
	for range times {
		library.Write(make([]byte, piece))
	}
	want := string(library.Sum(nil))
	if got := sha.Sum(strings.Repeat("\x00", piece*times)); got != want {
		t.Errorf("Sum of 2^29 bytes of 0: %x; want %x", got, want)
	}
}

// 7.1: a sum has 32 bytes, whatever the text is.
func TestSize(t *testing.T) {
	for n := range 200 {
		for _, s := range texts(n) {
			if got := sha.Sum(s); len(got) != 32 {
				t.Errorf("Sum of %d bytes has %d", n, len(got))
			}
		}
	}
}

// R5: the same text has the same sum again, behind other ones, and as a piece of another.
func TestAgain(t *testing.T) {
	first := map[string]string{}
	for n := range 200 {
		for _, s := range texts(n) {
			first[s] = sha.Sum(s)
		}
	}
	for s, want := range first {
		if got := sha.Sum(s); got != want {
			t.Errorf("Sum(%x): %x, and ahead of it %x", s, got, want)
		}
		whole := "ahead" + s + "behind"
		if got := sha.Sum(whole[5 : 5+len(s)]); got != want {
			t.Errorf("Sum(%x) as a piece: %x, and ahead of it %x", s, got, want)
		}
	}
}

// 7.1: Blocks at the edges that the document names, and of numbers out of them.
func TestBlocks(t *testing.T) {
	const most = 1 << 60
	for _, c := range []struct{ n, want int }{
		{0, 1}, {1, 1}, {54, 1}, {55, 1}, {56, 2}, {57, 2}, {63, 2}, {64, 2}, {65, 2},
		{118, 2}, {119, 2}, {120, 3}, {121, 3}, {127, 3}, {128, 3}, {183, 3}, {184, 4},
		{1<<31 - 1, 1<<25 + 1}, {1 << 31, 1<<25 + 1}, {1 << 32, 1<<26 + 1},
		{most - 65, 1 << 54}, {most - 64, 1 << 54}, {most - 10, 1 << 54}, {most - 9, 1 << 54},
		{most - 8, 1<<54 + 1}, {most - 1, 1<<54 + 1}, {most, 1<<54 + 1},
		{most + 1, 0}, {most + 64, 0}, {1 << 61, 0}, {1 << 62, 0}, {math.MaxInt - 8, 0}, {math.MaxInt - 7, 0}, {math.MaxInt, 0},
		{-1, 0}, {-8, 0}, {-9, 0}, {-64, 0}, {-most, 0}, {-most - 1, 0}, {math.MinInt + 1, 0}, {math.MinInt, 0},
	} {
		if got := sha.Blocks(c.n); got != c.want {
			t.Errorf("Blocks(%d): %d; want %d", c.n, got, c.want)
		}
	}
}

// 7.1: Blocks is the least number of blocks with room for the text, the mark's byte and the length.
func TestBlocksLeast(t *testing.T) {
	for n := range 5000 {
		want := 1
		for want*64 < n+1+8 {
			want++
		}
		if got := sha.Blocks(n); got != want {
			t.Errorf("Blocks(%d): %d; want %d", n, got, want)
		}
	}
}
