package aead_test

import (
	"encoding/binary"
	"encoding/hex"
	"strings"
	"testing"

	"sandglass/aead"
	"sandglass/api"
	"sandglass/chacha"
	"sandglass/poly"
)

// zeros are n bytes 0.
func zeros(n int) string { return strings.Repeat("\x00", n) }

// mixed is a text of n bytes without a pattern, another one for each seed.
func mixed(n int, seed uint64) string {
	b := make([]byte, n)
	for i := range b {
		seed = seed*6364136223846793005 + 1442695040888963407
		b[i] = byte(seed >> 56)
	}
	return string(b)
}

// texts are such of n bytes: of 0s, of 255s, with every byte in its turn, without a pattern, and such that end with 0s.
func texts(n int) []string {
	turn := make([]byte, n)
	for i := range turn {
		turn[i] = byte(i)
	}
	some := mixed(n, uint64(n)+11)
	return []string{zeros(n), strings.Repeat("\xff", n), string(turn), some, some[:n/2] + zeros(n-n/2)}
}

// sizes are those of texts, and of what goes with them: at the edges of parts and of blocks, and some hundreds of bytes.
func sizes() []int { return []int{0, 1, 15, 16, 17, 63, 64, 65, 255, 256, 257, 600} }

// bytesOf is the text with those hexadecimal digits; spaces between them are passed over.
func bytesOf(digits string) string {
	b, err := hex.DecodeString(strings.ReplaceAll(digits, " ", ""))
	if err != nil {
		panic(err)
	}
	return string(b)
}

// filled is the text with bytes 0 behind it, up to a multiple of 16.
func filled(s string) string { return s + zeros((16-len(s)%16)%16) }

// length is a text's length in 8 bytes, the lowest first.
func length(s string) string {
	return string(binary.LittleEndian.AppendUint64(nil, uint64(len(s))))
}

// plainTag is the tag as the document counts it, by the layers below.
func plainTag(t *testing.T, key, nonce, sealed, more string) string {
	t.Helper()
	block, err := chacha.Block(key, nonce, 0)
	if err != api.OK {
		t.Fatalf("Block: %d", err)
	}
	tag, err := poly.Mac(block[:32], filled(more)+filled(sealed)+length(more)+length(sealed))
	if err != api.OK {
		t.Fatalf("Mac: %d", err)
	}
	return tag
}

// plain is Seal as the document counts it, by the layers below.
func plain(t *testing.T, key, nonce, s, more string) string {
	t.Helper()
	sealed, err := chacha.Xor(key, nonce, 1, s)
	if err != api.OK {
		t.Fatalf("Xor: %d", err)
	}
	return sealed + plainTag(t, key, nonce, sealed, more)
}

// check holds Seal against the plain count, and Open against the text, and answers what was sealed.
func check(t *testing.T, key, nonce, s, more string) string {
	t.Helper()
	want := plain(t, key, nonce, s, more)
	got, err := aead.Seal(key, nonce, s, more)
	if got != want || err != api.OK {
		t.Errorf("Seal of %x, %x, %d bytes and %d with them: %x, %d; want %x", key, nonce, len(s), len(more), got, err, want)
	}
	if len(got) != len(s)+16 {
		t.Errorf("Seal of %d bytes and %d with them has %d bytes", len(s), len(more), len(got))
	}
	if back, err := aead.Open(key, nonce, want, more); back != s || err != api.OK {
		t.Errorf("Open of %x, %x, %d bytes and %d with them: %x, %d; want %x", key, nonce, len(want), len(more), back, err, s)
	}
	return got
}

// refused holds that Open answers ErrSum, and nothing beside it.
func refused(t *testing.T, what, key, nonce, s, more string) {
	t.Helper()
	if got, err := aead.Open(key, nonce, s, more); got != "" || err != api.ErrSum {
		t.Errorf("%s, of %d bytes and %d with them: %x, %d; want nothing, and ErrSum", what, len(s), len(more), got, err)
	}
}

// flipped is the text with its i-th bit another one.
func flipped(s string, i int) string {
	b := []byte(s)
	b[i/8] ^= 1 << (i % 8)
	return string(b)
}

// 11.1: RFC 8439's example of a sealed text (2.8.2), and that of its appendix (A.5), there and back.
func TestExamples(t *testing.T) {
	for i, c := range []struct{ key, nonce, more, text, want string }{
		{
			bytesOf("808182838485868788898a8b8c8d8e8f 909192939495969798999a9b9c9d9e9f"), bytesOf("070000004041424344454647"), bytesOf("50515253c0c1c2c3c4c5c6c7"),
			"Ladies and Gentlemen of the class of '99: If I could offer you only one tip for the future, sunscreen would be it.",
			"d31a8d34648e60db7b86afbc53ef7ec2 a4aded51296e08fea9e2b5a736ee62d6 3dbea45e8ca9671282fafb69da92728b 1a71de0a9e060b2905d6a5b67ecd3b36" +
				"92ddbd7f2d778b8c9803aee328091b58 fab324e4fad675945585808b4831d7bc 3ff4def08e4b7a9de576d26586cec64b 6116" +
				"1ae10b594f09e26a7e902ecbd0600691",
		},
		{
			bytesOf("1c9240a5eb55d38af333888604f6b5f0 473917c1402b80099dca5cbc207075c0"), bytesOf("000000000102030405060708"), bytesOf("f33388860000000000004e91"),
			"Internet-Drafts are draft documents valid for a maximum of six months and may be updated, replaced, or obsoleted by other documents at any time. It is inappropriate to use Internet-Drafts as reference material or to cite them other than as /\u201cwork in progress./\u201d",
			"64a0861575861af460f062c79be643bd 5e805cfd345cf389f108670ac76c8cb2 4c6cfc18755d43eea09ee94e382d26b0 bdb7b73c321b0100d4f03b7f355894cf" +
				"332f830e710b97ce98c8a84abd0b9481 14ad176e008d33bd60f982b1ff37c855 9797a06ef4f0ef61c186324e2b350638 3606907b6a7c02b0f9f6157b53c867e4" +
				"b9166c767b804d46a59b5216cde7a4e9 9040c5a40433225ee282a1b0a06c523e af4534d7f83fa1155b0047718cbc546a 0d072b04b3564eea1b422273f548271a" +
				"0bb2316053fa76991955ebd63159434e cebb4e466dae5a1073a6727627097a10 49e617d91d361094fa68f0ff77987130 305beaba2eda04df997b714d6c6f2c29" +
				"a6ad5cb4022b02709b" +
				"eead9d67890cbb22392336fea1851f38",
		},
	} {
		want := bytesOf(c.want)
		if got, err := aead.Seal(c.key, c.nonce, c.text, c.more); got != want || err != api.OK {
			t.Errorf("example %d: %x, %d; want %x", i, got, err, want)
		}
		if got, err := aead.Open(c.key, c.nonce, want, c.more); got != c.text || err != api.OK {
			t.Errorf("example %d, back: %q, %d; want %q", i, got, err, c.text)
		}
	}
}

// 11.1: Seal and Open of texts of each size with each of what goes with them.
func TestSizes(t *testing.T) {
	key, nonce := texts(32)[3], texts(12)[3]
	for _, n := range sizes() {
		for _, m := range sizes() {
			for i, s := range texts(n) {
				check(t, key, nonce, s, texts(m)[i])
				check(t, key, nonce, s, texts(m)[4-i])
			}
		}
	}
}

// 11.1: every length up to some parts, of the text and of what goes with it.
func TestEveryLength(t *testing.T) {
	key, nonce := texts(32)[2], texts(12)[2]
	for n := range 140 {
		for _, other := range []int{0, 5, 16, 40} {
			check(t, key, nonce, texts(n)[3], texts(other)[3])
			check(t, key, nonce, texts(other)[3], texts(n)[3])
		}
	}
}

// 11.1: keys and nonces of every kind.
func TestKeys(t *testing.T) {
	for _, key := range texts(32) {
		for _, nonce := range texts(12) {
			for _, s := range []string{"", "a text", texts(100)[3]} {
				check(t, key, nonce, s, "")
				check(t, key, nonce, s, "with it")
			}
		}
	}
}

// 11.1: lengths of two and of three bytes, of the text and of what goes with it.
func TestLong(t *testing.T) {
	key, nonce := texts(32)[3], texts(12)[3]
	for _, n := range []int{1 << 12, 1<<16 - 1, 1 << 16, 1<<16 + 1, 1<<17 + 300, 1<<20 + 7} {
		check(t, key, nonce, texts(n)[3], "with it")
		check(t, key, nonce, "a text", texts(n)[3])
	}
	check(t, key, nonce, texts(1<<16 + 513)[3], texts(1<<17 + 1027)[3])
}

// 11.1: many keys, nonces and texts without a pattern, as pieces of a long one.
func TestMany(t *testing.T) {
	long := mixed(20_000, 11)
	for i := range 2000 {
		check(t, long[5*i:5*i+32], long[7*i:7*i+12], long[3*i:3*i+i%150], long[2*i:2*i+i%37])
	}
}

// 11.1: the text is xored from block 1 on: of bytes 0, the sealed ones are just blocks 1, 2 and so on.
func TestBlocks(t *testing.T) {
	key, nonce := texts(32)[3], texts(12)[3]
	got, err := aead.Seal(key, nonce, zeros(300), "more")
	if err != api.OK || len(got) != 316 {
		t.Fatalf("%d bytes, %d", len(got), err)
	}
	for i := range 4 {
		if want, _ := chacha.Block(key, nonce, uint32(1+i)); got[64*i:64*i+64] != want {
			t.Errorf("block %d: %x; want %x", 1+i, got[64*i:64*i+64], want)
		}
	}
}

// 11.1: what goes with a text is not in what is sealed, and changes its tag alone.
func TestMoreOnlyInTag(t *testing.T) {
	key, nonce := texts(32)[3], texts(12)[3]
	seen := map[string]int{}
	for m := range 100 {
		got := check(t, key, nonce, "a text", texts(m)[0])
		if bare, _ := aead.Seal(key, nonce, "a text", ""); got[:6] != bare[:6] {
			t.Errorf("%d bytes with it: %x; without %x", m, got, bare)
		}
		if other, ok := seen[got]; ok {
			t.Errorf("%d bytes 0 with it have the tag of %d", m, other)
		}
		seen[got] = m
	}
}

// 11.1: ErrSum, and nothing beside it, where any one bit of the sealed bytes, the tag, what goes with them, the key or the nonce is another one.
func TestEveryBit(t *testing.T) {
	key, nonce := texts(32)[3], texts(12)[3]
	for _, c := range []struct{ n, m int }{{0, 0}, {0, 20}, {1, 0}, {16, 16}, {33, 17}, {70, 5}} {
		s, more := texts(c.n)[3], texts(c.m)[2]
		sealed := check(t, key, nonce, s, more)
		for i := range 8 * len(sealed) {
			refused(t, "a bit of what is sealed", key, nonce, flipped(sealed, i), more)
		}
		for i := range 8 * len(more) {
			refused(t, "a bit of what goes with it", key, nonce, sealed, flipped(more, i))
		}
		for i := range 8 * len(key) {
			refused(t, "a bit of the key", flipped(key, i), nonce, sealed, more)
		}
		for i := range 8 * len(nonce) {
			refused(t, "a bit of the nonce", key, flipped(nonce, i), sealed, more)
		}
	}
}

// 11.1: a tag is another one, however many of its bytes are right: two bytes altered alike, bytes that changed places, one byte of every other value.
func TestForgedTags(t *testing.T) {
	key, nonce := texts(32)[3], texts(12)[3]
	sealed := check(t, key, nonce, "a text", "with it")
	for i := range 16 {
		at := len(sealed) - 16 + i
		for v := range 256 {
			if byte(v) != sealed[at] {
				refused(t, "a byte of the tag", key, nonce, sealed[:at]+string([]byte{byte(v)})+sealed[at+1:], "with it")
			}
		}
		for k := range i {
			b := []byte(sealed)
			to := len(sealed) - 16 + k
			b[at], b[to] = b[at]^0x55, b[to]^0x55
			refused(t, "two bytes altered alike", key, nonce, string(b), "with it")
			b = []byte(sealed)
			b[at], b[to] = b[to], b[at]
			if string(b) != sealed {
				refused(t, "two bytes that changed places", key, nonce, string(b), "with it")
			}
		}
	}
	for _, tag := range texts(16) {
		refused(t, "a tag of no text", key, nonce, sealed[:6]+tag, "with it")
		refused(t, "a tag alone", key, nonce, tag, "")
	}
}

// 11.1: bytes that go over from what goes with a text to the text, or back, are refused.
func TestMovedBytes(t *testing.T) {
	key, nonce := texts(32)[3], texts(12)[3]
	for _, n := range []int{16, 17, 32, 48, 50} {
		for _, more := range texts(n) {
			sealed := check(t, key, nonce, texts(n)[3], more)
			body, tag := sealed[:n], sealed[n:]
			for k := 1; k <= n; k++ {
				refused(t, "from what goes with it to the text", key, nonce, more[n-k:]+sealed, more[:n-k])
				refused(t, "from the text to what goes with it", key, nonce, body[k:]+tag, more+body[:k])
			}
		}
	}
	sealed := check(t, key, nonce, "", texts(32)[3])
	refused(t, "all of what goes with it", key, nonce, texts(32)[3]+sealed, "")
}

// 11.1: bytes 0 behind the sealed ones or behind what goes with them are refused, also where they fill a part up; so are cut ones.
func TestZerosBehind(t *testing.T) {
	key, nonce := texts(32)[3], texts(12)[3]
	for _, n := range []int{0, 1, 5, 15, 16, 17, 31, 32} {
		for _, ends := range texts(n) {
			sealed := check(t, key, nonce, ends, ends)
			body, tag := sealed[:n], sealed[n:]
			for k := 1; k < 35; k++ {
				refused(t, "0s behind the text", key, nonce, body+zeros(k)+tag, ends)
				refused(t, "0s behind what goes with it", key, nonce, sealed, ends+zeros(k))
				refused(t, "0s ahead of what goes with it", key, nonce, sealed, zeros(k)+ends)
				refused(t, "0s behind the tag", key, nonce, sealed+zeros(k), ends)
			}
			for k := 1; k <= n; k++ {
				refused(t, "cut text", key, nonce, body[:n-k]+tag, ends)
				refused(t, "cut ahead", key, nonce, sealed[k:], ends)
				refused(t, "cut behind", key, nonce, sealed[:len(sealed)-k], ends)
				refused(t, "what goes with it is cut", key, nonce, sealed, ends[:n-k])
			}
		}
	}
}

// 11.1: another text's tag is refused, and so is the text under what goes with another one.
func TestOtherTexts(t *testing.T) {
	key, nonce := texts(32)[3], texts(12)[3]
	one := check(t, key, nonce, "a text", "first")
	two := check(t, key, nonce, "a test", "second")
	refused(t, "another tag", key, nonce, one[:6]+two[6:], "first")
	refused(t, "another tag", key, nonce, one[:6]+two[6:], "second")
	refused(t, "what goes with another one", key, nonce, one, "second")
	refused(t, "changed places", key, nonce, one, "")
	refused(t, "not sealed", key, nonce, "a text that was never sealed", "first")
}

// 11.1: a text whose tag is right is opened, whoever made it.
func TestOpenOfOthers(t *testing.T) {
	key, nonce := texts(32)[3], texts(12)[3]
	for n := range 100 {
		for _, sealed := range texts(n) {
			whole := sealed + plainTag(t, key, nonce, sealed, "with it")
			want, _ := chacha.Xor(key, nonce, 1, sealed)
			if got, err := aead.Open(key, nonce, whole, "with it"); got != want || err != api.OK {
				t.Errorf("%d bytes: %x, %d; want %x", n, got, err, want)
			}
		}
	}
}

// 11.1, R2: ErrSize, and nothing beside it, of Open of less than 16 bytes, with a right key and a wrong one.
func TestErrSizeOfTexts(t *testing.T) {
	for n := range 16 {
		for _, s := range texts(n) {
			for _, more := range []string{"", "with it"} {
				for _, key := range []string{texts(32)[3], "", texts(31)[3]} {
					if got, err := aead.Open(key, texts(12)[3], s, more); got != "" || err != api.ErrSize {
						t.Errorf("Open of %d bytes by a key of %d: %x, %d", n, len(key), got, err)
					}
				}
			}
		}
	}
	// 16 bytes are enough: a tag, which may be a wrong one.
	refused(t, "a tag", texts(32)[3], texts(12)[3], zeros(16), "")
}

// 11.1, R2: ErrSize, and nothing beside it, unless the key has 32 bytes and the nonce 12; no text is a way around, and ErrSize is told ahead of ErrSum.
func TestErrSize(t *testing.T) {
	key, nonce := texts(32)[3], texts(12)[3]
	lengths := []int{256, 256 + 12, 256 + 32, 1 << 16, 1<<16 + 12, 1<<16 + 32}
	for n := range 70 {
		lengths = append(lengths, n)
	}
	for _, n := range lengths {
		for _, s := range []string{"", "a text", texts(100)[3]} {
			sealed, _ := aead.Seal(key, nonce, s, "")
			for _, wrong := range texts(n) {
				if got, err := aead.Seal(wrong, nonce, s, ""); n != 32 && (got != "" || err != api.ErrSize) || n == 32 && err != api.OK {
					t.Errorf("Seal by a key of %d bytes: %x, %d", n, got, err)
				}
				if got, err := aead.Open(wrong, nonce, sealed, ""); n != 32 && (got != "" || err != api.ErrSize) {
					t.Errorf("Open by a key of %d bytes: %x, %d", n, got, err)
				}
				if got, err := aead.Seal(key, wrong, s, ""); n != 12 && (got != "" || err != api.ErrSize) || n == 12 && err != api.OK {
					t.Errorf("Seal by a nonce of %d bytes: %x, %d", n, got, err)
				}
				if got, err := aead.Open(key, wrong, sealed, ""); n != 12 && (got != "" || err != api.ErrSize) {
					t.Errorf("Open by a nonce of %d bytes: %x, %d", n, got, err)
				}
				if got, err := aead.Open(wrong, wrong, flipped(sealed, 0), "more"); got != "" || err != api.ErrSize {
					t.Errorf("Open of a forged text by a key and a nonce of %d bytes: %x, %d", n, got, err)
				}
			}
		}
	}
}

// 11.1: key and nonce that have each other's lengths are refused.
func TestErrSizeExchanged(t *testing.T) {
	key, nonce := texts(32)[3], texts(12)[3]
	sealed := check(t, key, nonce, "a text", "")
	if got, err := aead.Seal(nonce, key, "a text", ""); got != "" || err != api.ErrSize {
		t.Errorf("Seal: %x, %d", got, err)
	}
	if got, err := aead.Open(nonce, key, sealed, ""); got != "" || err != api.ErrSize {
		t.Errorf("Open: %x, %d", got, err)
	}
}

// R5: the same arguments have the same answer again, behind other calls, refused ones among them, and as pieces of other texts.
func TestAgain(t *testing.T) {
	type answers struct{ sealed, opened string }
	ask := func(key, nonce, s, more string) answers {
		sealed, _ := aead.Seal(key, nonce, s, more)
		opened, _ := aead.Open(key, nonce, sealed, more)
		return answers{sealed, opened}
	}
	var first []answers
	for _, n := range sizes() {
		for _, m := range sizes() {
			first = append(first, ask(texts(32)[3], texts(12)[3], texts(n)[3], texts(m)[2]))
			ask(texts(31)[3], texts(12)[3], texts(n)[3], texts(m)[2])
			ask(texts(32)[2], texts(12)[2], texts(n)[2], texts(m)[3])
			aead.Open(texts(32)[3], texts(12)[3], texts(n)[3], texts(m)[2])
		}
	}
	for i, n := range sizes() {
		for j, m := range sizes() {
			want := first[i*len(sizes())+j]
			if got := ask(texts(32)[3], texts(12)[3], texts(n)[3], texts(m)[2]); got != want {
				t.Errorf("%d bytes and %d with them: %x, and ahead of it %x", n, m, got, want)
			}
			whole := "ahead" + texts(32)[3] + texts(12)[3] + texts(n)[3] + texts(m)[2] + "behind"
			if got := ask(whole[5:37], whole[37:49], whole[49:49+n], whole[49+n:49+n+m]); got != want {
				t.Errorf("%d bytes and %d with them, as pieces: %x, and ahead of it %x", n, m, got, want)
			}
		}
	}
}
