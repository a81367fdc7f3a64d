package seal_test

import (
	"crypto/sha256"
	"encoding/hex"
	"math"
	"testing"

	"sandglass/api"
	"sandglass/mult"
	"sandglass/seal"
)

// 12.1: whole files, as another program made them of the document's words.
func TestFiles(t *testing.T) {
	for _, c := range []struct {
		k, r api.Num
		text string
		want string
	}{
		{api.Num{1}, api.Num{1}, "", "53474c31036b17d1f2e12c4247f8bce6e563a440f277037d812deb33a0f4a13945d898c296000000005744172ca677039dfd8ce9dd7bf4fc07"},
		{api.Num{5}, api.Num{3}, "abc", "53474c31025ecbe4d1a6330a44c8f7ef951d4bf165e6c6b721efada985fb41661bc6e7fd6c00000003e37e689106fea4ab9af947308bc1891fd8b920"},
		{last(1), api.Num{2}, "a vault that opens by its clock", "53474c31037cf27b188d034f7e8a52380304b51ac3c08969e277f21b35a60b48fc476699780000001fd267bb92959a85ee12b880cefe2d82fb49be3e06d50249b8f30cf01b9b323266da397d19e543a58fb09ffcb6f5f6a7"},
		{api.Num{0, 0x1234567890abcdef}, last(1), turn(40), "53474c31026b17d1f2e12c4247f8bce6e563a440f277037d812deb33a0f4a13945d898c29600000028333ae011ff19c052544664d7f71f733ce0066d21f927fe279f14c230024be292224c8574c379f7835bcd28b8e74e4fa7cf8d54b520082e53"},
	} {
		want := bytesOf(c.want)
		if file := sealed(t, c.k, c.r, c.text); file != want {
			t.Errorf("%x, %x, %q: %x; want %x", c.k, c.r, c.text, file, want)
		}
		checkOpen(t, c.k, want, c.text, api.OK)
	}
}

// 12.1: files of several chunks that another program made, by their sums.
func TestLongFiles(t *testing.T) {
	for _, c := range []struct {
		n    int
		want string
	}{
		{513, "41dfa1dadda4eeb5b9356f1fc10b38d7794b7de337c80a8a33de7fda97a273c1"},
		{2048, "63fc96084056f77379823c03e9b90cbb8d347f732a4e1a1d07ab5f3e8595a4c9"},
	} {
		sum := sha256.Sum256([]byte(sealed(t, api.Num{7}, api.Num{11}, turn(c.n))))
		if got := hex.EncodeToString(sum[:]); got != c.want {
			t.Errorf("%d bytes: %s; want %s", c.n, got, c.want)
		}
	}
}

// 12.1, 12.3: texts at the edges, of several kinds.
func TestSizes(t *testing.T) {
	for _, n := range sizes() {
		for _, s := range texts(n) {
			check(t, api.Num{5}, api.Num{3}, s)
			check(t, api.Num{0, 1}, api.Num{2}, s)
		}
	}
}

// 12.1, 12.3: texts of every length.
func TestEveryLength(t *testing.T) {
	long := mixed(2048, 12)
	for n := range len(long) + 1 {
		check(t, api.Num{2}, api.Num{3}, long[:n])
	}
}

// 12.1, 12.3: keys and numbers of every kind, each with each.
func TestKeys(t *testing.T) {
	numbers := []api.Num{{1}, {2}, last(1), last(2), {0, 0, 0, 1 << 63}, {0x243f6a8885a308d3, 0x13198a2e03707344, 0xa4093822299f31d0, 0x082efa98ec4e6c89}}
	for _, k := range numbers {
		for _, r := range numbers {
			check(t, k, r, "a text")
		}
	}
	for _, r := range numbers {
		check(t, last(3), r, mixed(300, 5))
	}
}

// 12.3: whatever r, the text is opened; each r has another file.
func TestEveryR(t *testing.T) {
	seen := map[string]uint64{}
	for i := uint64(1); i < 200; i++ {
		r := api.Num{i}
		file := sealed(t, api.Num{9}, r, "a text")
		checkOpen(t, api.Num{9}, file, "a text", api.OK)
		rest := file[41:]
		if other, ok := seen[rest]; ok {
			t.Errorf("r of %d and of %d seal alike", i, other)
		}
		seen[rest] = i
	}
}

// 12.1, 12.3: P has a say in the key, beside S and R: r times P is the same of (6, 2) and of (4, 3), R is the same of (6, 2) and of (4, 2).
func TestPInKey(t *testing.T) {
	seen := map[string]int{}
	for i, c := range []struct{ k, r uint64 }{{6, 2}, {4, 3}, {4, 2}, {12, 1}, {2, 6}, {3, 4}} {
		check(t, api.Num{c.k}, api.Num{c.r}, "a text")
		rest := sealed(t, api.Num{c.k}, api.Num{c.r}, "a text")[41:]
		if other, ok := seen[rest]; ok {
			t.Errorf("cases %d and %d seal alike", i, other)
		}
		seen[rest] = i
	}
}

// 12.1: chunks with the same bytes are sealed otherwise, since their numbers are others.
func TestChunksApart(t *testing.T) {
	file := sealed(t, api.Num{5}, api.Num{3}, string(make([]byte, 2048)))
	seen := map[string]int{}
	for i := range 8 {
		chunk := file[41+272*i : 41+272*i+272]
		if other, ok := seen[chunk]; ok {
			t.Errorf("chunks %d and %d are sealed alike", i, other)
		}
		seen[chunk] = i
	}
}

// 12.1: Long of every number near those that it takes, and of the least and the greatest ones.
func TestLong(t *testing.T) {
	for n, want := range map[int]int{0: 57, 1: 58, 255: 312, 256: 313, 257: 330, 512: 585, 513: 602, 2047: 2216, 2048: 2217, -1: 0, 2049: 0} {
		if got := seal.Long(n); got != want {
			t.Errorf("Long(%d): %d; want %d", n, got, want)
		}
	}
	for n := -3000; n < 6000; n++ {
		if got, want := seal.Long(n), plainLong(n); got != want {
			t.Errorf("Long(%d): %d; want %d", n, got, want)
		}
	}
	for _, n := range []int{math.MinInt, math.MinInt + 1, math.MinInt32, -1 << 16, 1 << 16, 1<<16 + 1, math.MaxInt32, math.MaxInt - 1, math.MaxInt} {
		if got := seal.Long(n); got != 0 {
			t.Errorf("Long(%d): %d", n, got)
		}
	}
}

// 12.1: Long is the length of a file, whatever its bytes.
func TestLongOfFiles(t *testing.T) {
	for _, n := range sizes() {
		for _, s := range texts(n) {
			if file := sealed(t, api.Num{5}, api.Num{3}, s); len(file) != seal.Long(n) {
				t.Errorf("a file of %d bytes has %d; Long tells %d", n, len(file), seal.Long(n))
			}
		}
	}
}

// 12.2: Head reads a file, but no chunk: whatever stands there, it tells R and the length.
func TestHeadOfAnyChunks(t *testing.T) {
	for _, n := range sizes() {
		for i, r := range []api.Num{{1}, {2}, last(1), last(2)} {
			from := mult.Base(r)
			file := plainHead(t, from, n) + texts(plainLong(n) - 41)[i]
			checkHead(t, file, told{from, n, api.OK})
			checkOpen(t, api.Num{5}, file, "", api.ErrSum)
		}
	}
}

// 12.3: q - k times the base has the X of k times it, but a file to the one is not opened by the other.
func TestOpposite(t *testing.T) {
	file := sealed(t, last(5), api.Num{3}, "a text")
	checkOpen(t, last(5), file, "a text", api.OK)
	checkOpen(t, api.Num{5}, file, "", api.ErrSum)
}

// R5: the same arguments have the same answer again, behind other calls, refused ones among them.
func TestAgain(t *testing.T) {
	type answers struct {
		file, text string
		head       told
		long       int
	}
	p := mult.Base(api.Num{5})
	ask := func(n int) answers {
		file, _ := seal.Seal(p, api.Num{3}, mixed(n, 3))
		text, _ := seal.Open(api.Num{5}, file)
		r, length, err := seal.Head(file)
		return answers{file, text, told{r, length, err}, seal.Long(n)}
	}
	var first []answers
	for _, n := range sizes() {
		first = append(first, ask(n))
		seal.Seal(p, api.Num{}, mixed(n, 3))
		seal.Seal(api.Point{None: true}, api.Num{3}, mixed(n, 4))
		seal.Seal(mult.Base(api.Num{6}), api.Num{2}, mixed(n, 5))
		seal.Open(api.Num{6}, first[0].file)
		seal.Open(api.Num{5}, flipped(first[0].file, 400))
		seal.Head(mixed(n, 6))
		seal.Long(-n)
	}
	for i, n := range sizes() {
		if got := ask(n); got != first[i] {
			t.Errorf("%d bytes: another answer than at first", n)
		}
	}
}
