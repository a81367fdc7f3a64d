package hmac_test

import (
	"crypto/hkdf"
	library "crypto/hmac"
	"crypto/sha256"
	"encoding/hex"
	"math"
	"strings"
	"testing"

	"sandglass/api"
	"sandglass/hmac"
	"sandglass/sha"
)

// most is the greatest number of bytes that Expand answers.
const most = 255 * 32

// texts are such of n bytes: of 0s, of 255s, of the bytes that keys are masked with, with every byte in its turn, without a pattern, and such that end with 0s.
func texts(n int) []string {
	turn, mixed := make([]byte, n), make([]byte, n)
	seed := uint64(n) + 8
	for i := range n {
		turn[i] = byte(i)
		seed = seed*6364136223846793005 + 1442695040888963407
		mixed[i] = byte(seed >> 56)
	}
	ended := string(mixed[:n/2]) + strings.Repeat("\x00", n-n/2)
	return []string{
		strings.Repeat("\x00", n), strings.Repeat("\xff", n), strings.Repeat("\x36", n), strings.Repeat("\x5c", n),
		string(turn), string(mixed), ended,
	}
}

// keys are texts of lengths around those of a sum and of a block, and of some hundreds of bytes.
func keys() []string {
	var l []string
	for _, n := range []int{0, 1, 2, 4, 20, 31, 32, 33, 62, 63, 64, 65, 66, 95, 96, 127, 128, 129, 131, 192, 300, 777} {
		l = append(l, texts(n)...)
	}
	return l
}

// libraryMac is the library's HMAC with SHA-256.
func libraryMac(key, s string) string {
	h := library.New(sha256.New, []byte(key))
	h.Write([]byte(s))
	return string(h.Sum(nil))
}

// counted is T(1), T(2) and so on up to T(255).
func counted(key, info string) string {
	all, last := "", ""
	for i := 1; i <= 255; i++ {
		last = libraryMac(key, last+info+string([]byte{byte(i)}))
		all += last
	}
	return all
}

// short is the beginning of a text in hexadecimal digits.
func short(s string) string { return hex.EncodeToString([]byte(s[:min(16, len(s))])) }

// bytesOf is the text with those hexadecimal digits.
func bytesOf(digits string) string {
	b, err := hex.DecodeString(digits)
	if err != nil {
		panic(err)
	}
	return string(b)
}

// rising is the bytes from the one to the other.
func rising(from, to int) string {
	var b []byte
	for i := from; i <= to; i++ {
		b = append(b, byte(i))
	}
	return string(b)
}

// checkMac holds Mac against the library's.
func checkMac(t *testing.T, key, s string) {
	t.Helper()
	if got, want := hmac.Mac(key, s), libraryMac(key, s); got != want {
		t.Errorf("Mac of a key of %d bytes (%s..) and a text of %d (%s..): %x; want %x", len(key), short(key), len(s), short(s), got, want)
	}
}

// checkExpand holds Expand against the first n bytes of a plain count.
func checkExpand(t *testing.T, key, info string, n int, all string) {
	t.Helper()
	got, err := hmac.Expand(key, info, n)
	if want := all[:n]; got != want || err != api.OK {
		t.Errorf("Expand of a key of %d bytes (%s..), info of %d (%s..) and %d: %d bytes %s.., %d; want %s..", len(key), short(key), len(info), short(info), n, len(got), short(got), err, short(want))
	}
}

// 8.1: the document's example, and those of RFC 4231.
func TestMacExamples(t *testing.T) {
	again := func(s string, n int) string { return strings.Repeat(s, n) }
	for _, c := range []struct{ key, s, want string }{
		{"Jefe", "what do ya want for nothing?", "5bdcc146bf60754e6a042426089575c75a003f089d2739839dec58b964ec3843"},
		{again("\x0b", 20), "Hi There", "b0344c61d8db38535ca8afceaf0bf12b881dc200c9833da726e9376c2e32cff7"},
		{again("\xaa", 20), again("\xdd", 50), "773ea91e36800e46854db8ebd09181a72959098b3ef8c122d9635514ced565fe"},
		{rising(1, 25), again("\xcd", 50), "82558a389a443c0ea4cc819899f2083a85f0faa3e578f8077a2e3ff46729665b"},
		{again("\xaa", 131), "Test Using Larger Than Block-Size Key - Hash Key First", "60e431591ee0b67f0d8a26aacbf5b77f8e0bc6213728c5140546040f0ee37f54"},
		{again("\xaa", 131), "This is a test using a larger than block-size key and a larger than block-size data. The key needs to be hashed before being used by the HMAC algorithm.", "9b09ffa71b942fcb27635fbcd5b0e944bfdc63644f0713938a7f51535c3a35e2"},
		{"", "", "b613679a0814d9ec772f95d778c35fc5ff1697c493715653c6c712144292c5ad"},
	} {
		if got := hex.EncodeToString([]byte(hmac.Mac(c.key, c.s))); got != c.want {
			t.Errorf("Mac of a key of %d bytes and %q: %s; want %s", len(c.key), c.s, got, c.want)
		}
	}
}

// 8.1: keys of every kind, with texts of lengths at the edges of blocks, empty ones among both.
func TestMacKeys(t *testing.T) {
	for _, key := range keys() {
		for _, n := range []int{0, 1, 32, 55, 56, 63, 64, 65, 119, 120, 500} {
			for _, s := range texts(n) {
				checkMac(t, key, s)
			}
		}
	}
}

// 8.1: keys of every length up to some blocks, and texts of every length.
func TestMacEveryLength(t *testing.T) {
	for n := range 300 {
		for _, s := range texts(n) {
			checkMac(t, s, "a text")
			checkMac(t, "a key", s)
			checkMac(t, s, s)
		}
	}
	for _, s := range texts(1 << 18) {
		checkMac(t, s, "a text")
		checkMac(t, "a key", s)
	}
}

// 8.1: each bit of a key that fits has its say, and each of a text.
func TestMacEveryBit(t *testing.T) {
	seen := map[string]bool{}
	for i := range 64 * 8 {
		b := make([]byte, 64)
		b[i/8] = 1 << (i % 8)
		checkMac(t, string(b), "a text")
		checkMac(t, "a key", string(b))
		seen[hmac.Mac(string(b), "a text")] = true
		seen[hmac.Mac("a key", string(b))] = true
	}
	if len(seen) != 2*64*8 {
		t.Errorf("%d keys and texts have %d macs", 2*64*8, len(seen))
	}
}

// 8.1: a key of more than 64 bytes is as its Sum, one of 64 and less is not.
func TestMacLongKey(t *testing.T) {
	for n := range 300 {
		for _, key := range texts(n) {
			same := hmac.Mac(key, "a text") == hmac.Mac(sha.Sum(key), "a text")
			if same != (n > 64) {
				t.Errorf("the key of %d bytes (%s..) is as its Sum: %t", n, short(key), same)
			}
		}
	}
}

// 8.1: a key of at most 64 bytes is as itself with bytes 0 behind it up to 64, and not further; 0s ahead of it are not nothing.
func TestMacPaddedKey(t *testing.T) {
	for n := range 65 {
		for _, key := range texts(n) {
			want := hmac.Mac(key, "a text")
			for padded := n; padded <= 70; padded++ {
				same := hmac.Mac(key+strings.Repeat("\x00", padded-n), "a text") == want
				if same != (padded <= 64) {
					t.Errorf("the key of %d bytes (%s..) is as itself with 0s up to %d: %t", n, short(key), padded, same)
				}
			}
		}
	}
	if hmac.Mac("\x00key", "a text") == hmac.Mac("key", "a text") {
		t.Error("a byte 0 ahead of the key is as nothing")
	}
}

// 8.1: Mac is two sums, as the document writes them.
func TestMacSums(t *testing.T) {
	xor := func(key string, mask byte) string {
		b := make([]byte, 64)
		copy(b, key)
		for i := range b {
			b[i] ^= mask
		}
		return string(b)
	}
	for n := range 65 {
		for _, key := range texts(n) {
			want := sha.Sum(xor(key, 0x5c) + sha.Sum(xor(key, 0x36)+"a text"))
			if got := hmac.Mac(key, "a text"); got != want {
				t.Errorf("Mac of a key of %d bytes (%s..): %x; want %x", n, short(key), got, want)
			}
		}
	}
}

// 8.1: Extract is Mac of the salt and the text, in that order; an empty salt is as one of bytes 0.
func TestExtract(t *testing.T) {
	for _, salt := range keys() {
		for _, n := range []int{0, 1, 22, 64, 65, 200} {
			for _, s := range texts(n) {
				got := hmac.Extract(salt, s)
				if got != hmac.Mac(salt, s) || got != libraryMac(salt, s) {
					t.Errorf("Extract of a salt of %d bytes (%s..) and a text of %d (%s..): %x; want %x", len(salt), short(salt), n, short(s), got, libraryMac(salt, s))
				}
			}
		}
	}
	if hmac.Extract("", "a text") != hmac.Extract(strings.Repeat("\x00", 32), "a text") {
		t.Error("an empty salt is not as 32 bytes 0")
	}
}

// 8.1: the examples of RFC 5869 with SHA-256.
func TestRFC5869(t *testing.T) {
	for i, c := range []struct {
		s, salt, info string
		n             int
		key, want     string
	}{
		{
			strings.Repeat("\x0b", 22), rising(0, 0x0c), rising(0xf0, 0xf9), 42,
			"077709362c2e32df0ddc3f0dc47bba6390b6c73bb50f9c3122ec844ad7c2b3e5",
			"3cb25f25faacd57a90434f64d0362f2a2d2d0a90cf1a5a4c5db02d56ecc4c5bf34007208d5b887185865",
		},
		{
			rising(0, 0x4f), rising(0x60, 0xaf), rising(0xb0, 0xff), 82,
			"06a6b88c5853361a06104c9ceb35b45cef760014904671014a193f40c15fc244",
			"b11e398dc80327a1c8e7f78c596a49344f012eda2d4efad8a050cc4c19afa97c59045a99cac7827271cb41c65e590e09da3275600c2f09b8367793a9aca3db71cc30c58179ec3e87c14c01d5c1f3434f1d87",
		},
		{
			strings.Repeat("\x0b", 22), "", "", 42,
			"19ef24a32c717b167f33a91d6f648bdf96596776afdb6377ac434c1c293ccb04",
			"8da4e775a563c18f715f802a063c5a31b8a11f5c5ee1879ec3454e5f3c738d2d9d201395faa4b61a96c8",
		},
	} {
		key := hmac.Extract(c.salt, c.s)
		if key != bytesOf(c.key) {
			t.Errorf("A.%d: the key is %x; want %s", i+1, key, c.key)
		}
		if got, err := hmac.Expand(key, c.info, c.n); got != bytesOf(c.want) || err != api.OK {
			t.Errorf("A.%d: %x, %d; want %s", i+1, got, err, c.want)
		}
	}
}

// infos are empty, short, as long as a block and around it, and long.
func infos() []string {
	var l []string
	for _, n := range []int{0, 1, 10, 31, 32, 63, 64, 65, 1000} {
		l = append(l, texts(n)[5], texts(n)[0])
	}
	return l
}

// 8.1: Expand at the edges of sums and at its last bytes, with keys and infos of many lengths.
func TestExpand(t *testing.T) {
	for _, key := range []string{"", "k", strings.Repeat("\x00", 32), texts(32)[5], texts(63)[5], texts(64)[5], texts(65)[5], texts(300)[5], texts(64)[6]} {
		for _, info := range infos() {
			all := counted(key, info)
			for _, n := range []int{0, 1, 31, 32, 33, 63, 64, 65, 96, 97, most - 33, most - 32, most - 31, most - 1, most} {
				checkExpand(t, key, info, n, all)
			}
		}
	}
}

// 8.1: Expand of every number of bytes: fewer bytes are the first ones of more.
func TestExpandEveryLength(t *testing.T) {
	all := counted("a key", "info")
	for n := range most + 1 {
		if n > 1100 && n < most-100 && n%61 != 0 {
			continue
		}
		checkExpand(t, "a key", "info", n, all)
	}
}

// 8.1: Expand with every byte as info and as a key, and a long key and a long info, against the library's HKDF.
func TestExpandLibrary(t *testing.T) {
	check := func(key, info string, n int) {
		t.Helper()
		want, err := hkdf.Expand(sha256.New, []byte(key), info, n)
		if err != nil {
			t.Fatal(err)
		}
		if got, err := hmac.Expand(key, info, n); got != string(want) || err != api.OK {
			t.Errorf("Expand of a key of %d bytes, info of %d and %d: %d bytes %s.., %d; want %s..", len(key), len(info), n, len(got), short(got), err, short(string(want)))
		}
	}
	for b := range 256 {
		one := string([]byte{byte(b)})
		check("a key", one, 100)
		check(one, "info", 100)
	}
	check(texts(1 << 18)[5], "info", most)
	check("a key", texts(1 << 16)[5], 200)
	check("a key", texts(1 << 12)[5], most)
}

// 8.1: ErrArg, and nothing beside it, unless n is 0 to 8160.
func TestExpandErrArg(t *testing.T) {
	for _, key := range []string{"", "a key", texts(65)[5]} {
		for _, info := range []string{"", "info"} {
			for _, n := range []int{
				-1, -2, -32, -255, -256, -most, -most - 1, most + 1, most + 2, most + 31, most + 32, 256 * 32, 1 << 16,
				1 << 31, 1 << 32, -1 << 32, 1<<32 + 32, math.MaxInt - 32, math.MaxInt - 31, math.MaxInt, math.MinInt + 1, math.MinInt,
			} {
				if got, err := hmac.Expand(key, info, n); got != "" || err != api.ErrArg {
					t.Errorf("Expand of %d: %d bytes, %d; want ErrArg", n, len(got), err)
				}
			}
		}
	}
}

// 8.1, R2: no bytes are asked for, and none are answered: that is no error.
func TestExpandNothing(t *testing.T) {
	for _, key := range keys() {
		if got, err := hmac.Expand(key, key, 0); got != "" || err != api.OK {
			t.Errorf("Expand of 0: %d bytes, %d", len(got), err)
		}
	}
}

// R5: the same arguments have the same answer again, behind other calls, refused ones among them, and as pieces of other texts.
func TestAgain(t *testing.T) {
	type answers struct{ mac, extract, expand string }
	ask := func(key, s string, n int) answers {
		expand, _ := hmac.Expand(key, s, n)
		return answers{hmac.Mac(key, s), hmac.Extract(key, s), expand}
	}
	var first []answers
	for i, key := range keys() {
		first = append(first, ask(key, "a text", i))
		hmac.Expand(key, "a text", -1-i)
	}
	for i, key := range keys() {
		if got := ask(key, "a text", i); got != first[i] {
			t.Errorf("a key of %d bytes (%s..): %x, and ahead of it %x", len(key), short(key), got, first[i])
		}
		whole := "ahead" + key + "a text" + "behind"
		if got := ask(whole[5:5+len(key)], whole[5+len(key):11+len(key)], i); got != first[i] {
			t.Errorf("a key of %d bytes (%s..) as a piece: %x, and ahead of it %x", len(key), short(key), got, first[i])
		}
	}
}

// 8.1: a mac has 32 bytes, and Expand as many as it is asked for.
func TestSizes(t *testing.T) {
	for _, key := range keys() {
		if got := len(hmac.Mac(key, key)); got != 32 {
			t.Errorf("Mac has %d bytes", got)
		}
		if got := len(hmac.Extract(key, key)); got != 32 {
			t.Errorf("Extract has %d bytes", got)
		}
	}
	for _, n := range []int{0, 1, 31, 32, 33, 64, 65, most} {
		if got, _ := hmac.Expand("a key", "info", n); len(got) != n {
			t.Errorf("Expand of %d has %d bytes", n, len(got))
		}
	}
}
