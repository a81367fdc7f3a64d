package chacha_test

import (
	"encoding/hex"
	"math"
	"strings"
	"testing"

	"sandglass/api"
	"sandglass/chacha"
)

// numbers are such of blocks: around 0, 2^8, 2^16 and 2^31, and the last ones.
func numbers() []uint32 {
	return []uint32{
		0, 1, 2, 255, 256, 257, 65535, 65536, 1 << 24, 1<<31 - 1, 1 << 31, 1<<31 + 1, 0x01020304,
		math.MaxUint32 - 2, math.MaxUint32 - 1, math.MaxUint32,
	}
}

// texts are such of n bytes: of 0s, of 255s, with every byte in its turn, and without a pattern.
func texts(n int) []string {
	turn, mixed := make([]byte, n), make([]byte, n)
	seed := uint64(n) + 9
	for i := range n {
		turn[i] = byte(i)
		seed = seed*6364136223846793005 + 1442695040888963407
		mixed[i] = byte(seed >> 56)
	}
	return []string{strings.Repeat("\x00", n), strings.Repeat("\xff", n), string(turn), string(mixed)}
}

// short is the beginning of a text in hexadecimal digits.
func short(s string) string { return hex.EncodeToString([]byte(s[:min(16, len(s))])) }

// bytesOf is the text with those hexadecimal digits; spaces between them are passed over.
func bytesOf(digits string) string {
	b, err := hex.DecodeString(strings.ReplaceAll(digits, " ", ""))
	if err != nil {
		panic(err)
	}
	return string(b)
}

// turned is the lowest 32 bits of x, turned left by n.
func turned(x uint64, n int) uint64 {
	x %= 1 << 32
	return (x<<n + x>>(32-n)) % (1 << 32)
}

// plain is a block as the document counts it, with numbers of 64 bits whose rests are taken.
func plain(key, nonce string, n uint32) string {
	whole := "expand 32-byte k" + key + string([]byte{byte(n), byte(n >> 8), byte(n >> 16), byte(n >> 24)}) + nonce
	var first [16]uint64
	for i := range 64 {
		first[i/4] += uint64(whole[i]) << (i % 4 * 8)
	}
	s := first
	for r := range 20 {
		// Odd rounds go over the diagonals: each row is begun one further than the one above it.
		shift := r % 2
		for i := range 4 {
			a, b, c, d := &s[i], &s[4+(i+shift)%4], &s[8+(i+2*shift)%4], &s[12+(i+3*shift)%4]
			*a = (*a + *b) % (1 << 32)
			*d = turned(*d^*a, 16)
			*c = (*c + *d) % (1 << 32)
			*b = turned(*b^*c, 12)
			*a = (*a + *b) % (1 << 32)
			*d = turned(*d^*a, 8)
			*c = (*c + *d) % (1 << 32)
			*b = turned(*b^*c, 7)
		}
	}
	var b []byte
	for i := range 64 {
		b = append(b, byte((s[i/4]+first[i/4])>>(i%4*8)))
	}
	return string(b)
}

// plainXor is the text xor the blocks from the n-th on, byte by byte.
func plainXor(key, nonce string, n uint32, s string) string {
	b, block := make([]byte, len(s)), ""
	for i := range len(s) {
		if i%64 == 0 {
			block = plain(key, nonce, uint32((uint64(n)+uint64(i/64))%(1<<32)))
		}
		b[i] = s[i] ^ block[i%64]
	}
	return string(b)
}

// checkBlock holds Block against the plain one.
func checkBlock(t *testing.T, key, nonce string, n uint32) {
	t.Helper()
	got, err := chacha.Block(key, nonce, n)
	if want := plain(key, nonce, n); got != want || err != api.OK {
		t.Errorf("Block of %x, %x and %d: %x, %d; want %x", key, nonce, n, got, err, want)
	}
}

// checkXor holds Xor against the plain one.
func checkXor(t *testing.T, key, nonce string, n uint32, s string) {
	t.Helper()
	got, err := chacha.Xor(key, nonce, n, s)
	if want := plainXor(key, nonce, n, s); got != want || err != api.OK {
		t.Errorf("Xor of %x, %x, %d and a text of %d bytes (%s..): %d bytes %s.., %d; want %s..", key, nonce, n, len(s), short(s), len(got), short(got), err, short(want))
	}
}

// 9.1: the document's example, and RFC 8439's of blocks (2.3.2 and A.1).
func TestBlockExamples(t *testing.T) {
	zeros := func(n int) string { return strings.Repeat("\x00", n) }
	for _, c := range []struct {
		key, nonce string
		n          uint32
		want       string
	}{
		{texts(32)[2], bytesOf("000000090000004a00000000"), 1, "10f1e7e4d13b5915500fdd1fa32071c4 c7d1f4c733c068030422aa9ac3d46c4e d2826446079faa0914c2d705d98b02a2 b5129cd1de164eb9cbd083e8a2503c4e"},
		{zeros(32), zeros(12), 0, "76b8e0ada0f13d90405d6ae55386bd28 bdd219b8a08ded1aa836efcc8b770dc7 da41597c5157488d7724e03fb8d84a37 6a43b8f41518a11cc387b669b2ee6586"},
		{zeros(32), zeros(12), 1, "9f07e7be5551387a98ba977c732d080d cb0f29a048e3656912c6533e32ee7aed 29b721769ce64e43d57133b074d839d5 31ed1f28510afb45ace10a1f4b794d6f"},
		{zeros(31) + "\x01", zeros(12), 1, "3aeb5224ecf849929b9d828db1ced4dd 832025e8018b8160b82284f3c949aa5a 8eca00bbb4a73bdad192b5c42f73f2fd 4e273644c8b36125a64addeb006c13a0"},
		{"\x00\xff" + zeros(30), zeros(12), 2, "72d54dfbf12ec44b362692df94137f32 8fea8da73990265ec1bbbea1ae9af0ca 13b25aa26cb4a648cb9b9d1be65b2c09 24a66c54d545ec1b7374f4872e99f096"},
		{zeros(32), zeros(11) + "\x02", 0, "c2c64d378cd536374ae204b9ef933fcd 1a8b2288b3dfa49672ab765b54ee27c7 8a970e0e955c14f3a88e741b97c286f7 5f8fc299e8148362fa198a39531bed6d"},
	} {
		if got, err := chacha.Block(c.key, c.nonce, c.n); got != bytesOf(c.want) || err != api.OK {
			t.Errorf("Block of %x, %x and %d: %x, %d; want %s", c.key, c.nonce, c.n, got, err, c.want)
		}
	}
}

// 9.1: RFC 8439's example of a text that is xored (2.4.2), there and back.
func TestXorExample(t *testing.T) {
	key, nonce := texts(32)[2], bytesOf("000000000000004a00000000")
	text := "Ladies and Gentlemen of the class of '99: If I could offer you only one tip for the future, sunscreen would be it."
	want := bytesOf("6e2e359a2568f98041ba0728dd0d6981 e97e7aec1d4360c20a27afccfd9fae0b f91b65c5524733ab8f593dabcd62b357 1639d624e65152ab8f530c359f0861d8" +
		"07ca0dbf500d6a6156a38e088a22b65e 52bc514d16ccf806818ce91ab7793736 5af90bbf74a35be6b40b8eedf2785e42 874d")
	if got, err := chacha.Xor(key, nonce, 1, text); got != want || err != api.OK {
		t.Errorf("%x, %d; want %x", got, err, want)
	}
	if got, err := chacha.Xor(key, nonce, 1, want); got != text || err != api.OK {
		t.Errorf("back: %q, %d; want %q", got, err, text)
	}
}

// 9.1: keys, nonces and numbers of every kind.
func TestBlock(t *testing.T) {
	for _, key := range texts(32) {
		for _, nonce := range texts(12) {
			for _, n := range numbers() {
				checkBlock(t, key, nonce, n)
			}
		}
	}
}

// 9.1: each bit of the key, of the nonce and of the number has its say, and its place.
func TestBlockEveryBit(t *testing.T) {
	seen := map[string]bool{}
	for i := range (32 + 12 + 4) * 8 {
		b := make([]byte, 48)
		b[i/8] = 1 << (i % 8)
		key, nonce := string(b[:32]), string(b[32:44])
		n := uint32(b[44]) | uint32(b[45])<<8 | uint32(b[46])<<16 | uint32(b[47])<<24
		checkBlock(t, key, nonce, n)
		got, _ := chacha.Block(key, nonce, n)
		seen[got] = true
	}
	if len(seen) != 48*8 {
		t.Errorf("%d keys, nonces and numbers have %d blocks", 48*8, len(seen))
	}
}

// 9.1: texts of lengths at the edges of blocks and of some thousands of bytes, from numbers near 0, 2^31 and 2^32 on.
func TestXor(t *testing.T) {
	key, nonce := texts(32)[3], texts(12)[3]
	for _, size := range []int{0, 1, 2, 63, 64, 65, 127, 128, 129, 191, 192, 193, 2048, 4096, 5000} {
		for _, s := range texts(size) {
			for _, n := range numbers() {
				checkXor(t, key, nonce, n, s)
			}
		}
	}
}

// 9.1: texts of every length up to some blocks, so that each ends somewhere else in its last one.
func TestXorEveryLength(t *testing.T) {
	for size := range 260 {
		for _, s := range texts(size) {
			checkXor(t, texts(32)[2], texts(12)[2], 7, s)
			checkXor(t, texts(32)[3], texts(12)[3], math.MaxUint32, s)
		}
	}
}

// 9.1: keys and nonces of every kind.
func TestXorKeys(t *testing.T) {
	for _, key := range texts(32) {
		for _, nonce := range texts(12) {
			for _, s := range texts(150) {
				checkXor(t, key, nonce, 1, s)
			}
		}
	}
}

// 9.1: a text of bytes 0 is xored to the blocks themselves, which Block answers; behind 2^32 - 1 it goes on at 0.
func TestXorIsBlocks(t *testing.T) {
	key, nonce := texts(32)[3], texts(12)[3]
	for _, n := range numbers() {
		want := ""
		for i := range uint32(6) {
			b, _ := chacha.Block(key, nonce, n+i)
			want += b
		}
		if got, err := chacha.Xor(key, nonce, n, strings.Repeat("\x00", len(want))); got != want || err != api.OK {
			t.Errorf("from %d on: %d bytes %s.., %d; want %s..", n, len(got), short(got), err, short(want))
		}
	}
}

// 9.1: a text that is xored twice is the same.
func TestXorTwice(t *testing.T) {
	for _, size := range []int{0, 1, 63, 64, 65, 129, 3000} {
		for _, s := range texts(size) {
			for _, n := range numbers() {
				once, _ := chacha.Xor(texts(32)[3], texts(12)[3], n, s)
				if twice, err := chacha.Xor(texts(32)[3], texts(12)[3], n, once); twice != s || err != api.OK {
					t.Errorf("a text of %d bytes (%s..) from %d on: %s.., %d", size, short(s), n, short(twice), err)
				}
				if size >= 63 && once == s {
					t.Errorf("a text of %d bytes (%s..) from %d on stays as it is", size, short(s), n)
				}
			}
		}
	}
}

// 9.1: a text is xored block by block: some blocks of it by themselves, and the rest from the next number on.
func TestXorByBlocks(t *testing.T) {
	key, nonce := texts(32)[3], texts(12)[3]
	for _, s := range texts(1000) {
		for _, n := range numbers() {
			whole, _ := chacha.Xor(key, nonce, n, s)
			for blocks := range uint32(len(s)/64 + 1) {
				ahead, _ := chacha.Xor(key, nonce, n, s[:64*blocks])
				behind, err := chacha.Xor(key, nonce, n+blocks, s[64*blocks:])
				if ahead+behind != whole || err != api.OK {
					t.Errorf("%d blocks from %d on by themselves: %s.. and %s.., %d; want %s..", blocks, n, short(ahead), short(behind), err, short(whole))
				}
			}
		}
	}
}

// 9.1: a long text has blocks beyond the numbers of 16 bits.
func TestXorLong(t *testing.T) {
	s := texts(1<<22 + 100)[3]
	got, err := chacha.Xor(texts(32)[3], texts(12)[3], math.MaxUint32-300, s)
	if err != api.OK || len(got) != len(s) {
		t.Fatalf("%d bytes, %d", len(got), err)
	}
	want := plainXor(texts(32)[3], texts(12)[3], math.MaxUint32-300, s)
	for i := range len(s) {
		if got[i] != want[i] {
			t.Fatalf("byte %d of %d is %d; want %d", i, len(s), got[i], want[i])
		}
	}
}

// 9.1, R2: ErrSize, and nothing beside it, unless the key has 32 bytes and the nonce 12; an empty text is no way around.
func TestErrSize(t *testing.T) {
	for keySize := range 70 {
		for nonceSize := range 40 {
			for k := range 4 {
				key, nonce := texts(keySize)[k], texts(nonceSize)[k]
				wanted := api.ErrSize
				if keySize == 32 && nonceSize == 12 {
					wanted = api.OK
				}
				for _, n := range []uint32{0, 1, math.MaxUint32} {
					if got, err := chacha.Block(key, nonce, n); err != wanted || err != api.OK && got != "" {
						t.Errorf("Block of a key of %d bytes and a nonce of %d: %q, %d; want %d", keySize, nonceSize, got, err, wanted)
					}
					for _, s := range []string{"", "a", texts(64)[3], texts(65)[3]} {
						if got, err := chacha.Xor(key, nonce, n, s); err != wanted || err != api.OK && got != "" {
							t.Errorf("Xor of a key of %d bytes, a nonce of %d and a text of %d: %q, %d; want %d", keySize, nonceSize, len(s), got, err, wanted)
						}
					}
				}
			}
		}
	}
}

// 9.1: long keys and nonces are refused, too, and a key and a nonce that are taken for each other.
func TestErrSizeLong(t *testing.T) {
	key, nonce := texts(32)[3], texts(12)[3]
	for _, c := range []struct{ key, nonce string }{
		{nonce, key}, {key + key, nonce}, {key, nonce + nonce}, {texts(1 << 16)[3], nonce}, {key, texts(1 << 16)[3]},
		{texts(256 + 32)[3], nonce}, {key, texts(256 + 12)[3]}, {texts(1<<16 + 32)[3], texts(1<<16 + 12)[3]},
	} {
		if got, err := chacha.Block(c.key, c.nonce, 0); got != "" || err != api.ErrSize {
			t.Errorf("Block of a key of %d bytes and a nonce of %d: %q, %d", len(c.key), len(c.nonce), got, err)
		}
		if got, err := chacha.Xor(c.key, c.nonce, 0, "a text"); got != "" || err != api.ErrSize {
			t.Errorf("Xor of a key of %d bytes and a nonce of %d: %q, %d", len(c.key), len(c.nonce), got, err)
		}
	}
}

// 9.1: no text is asked to be xored, and none is answered: that is no error.
func TestXorNothing(t *testing.T) {
	for _, n := range numbers() {
		if got, err := chacha.Xor(texts(32)[3], texts(12)[3], n, ""); got != "" || err != api.OK {
			t.Errorf("Xor of no text from %d on: %q, %d", n, got, err)
		}
	}
}

// R5: the same arguments have the same answer again, behind other calls, refused ones among them, and as pieces of other texts.
func TestAgain(t *testing.T) {
	type answers struct{ block, xored string }
	ask := func(key, nonce string, n uint32, s string) answers {
		block, _ := chacha.Block(key, nonce, n)
		xored, _ := chacha.Xor(key, nonce, n, s)
		return answers{block, xored}
	}
	var first []answers
	for _, key := range texts(32) {
		for _, n := range numbers() {
			first = append(first, ask(key, texts(12)[3], n, texts(200)[3]))
			ask(key[1:], texts(12)[3], n, "a text")
		}
	}
	for i, key := range texts(32) {
		for j, n := range numbers() {
			want := first[i*len(numbers())+j]
			if got := ask(key, texts(12)[3], n, texts(200)[3]); got != want {
				t.Errorf("%x from %d on: %s.., and ahead of it %s..", key, n, short(got.xored), short(want.xored))
			}
			whole := "ahead" + key + texts(12)[3] + texts(200)[3] + "behind"
			if got := ask(whole[5:37], whole[37:49], n, whole[49:249]); got != want {
				t.Errorf("%x from %d on, as a piece: %s.., and ahead of it %s..", key, n, short(got.xored), short(want.xored))
			}
		}
	}
}

// 9.1: a block has 64 bytes, and a text as many xored as not.
func TestSizes(t *testing.T) {
	for _, n := range numbers() {
		if got, _ := chacha.Block(texts(32)[3], texts(12)[3], n); len(got) != 64 {
			t.Errorf("Block %d has %d bytes", n, len(got))
		}
	}
	for size := range 300 {
		if got, _ := chacha.Xor(texts(32)[3], texts(12)[3], 1, texts(size)[3]); len(got) != size {
			t.Errorf("a text of %d bytes has %d xored", size, len(got))
		}
	}
}
