package poly_test

import (
	"encoding/hex"
	"math/big"
	"strings"
	"testing"

	"sandglass/api"
	"sandglass/poly"
)

// power is 2^n.
func power(n uint) *big.Int { return new(big.Int).Lsh(big.NewInt(1), n) }

// prime is 2^130 - 5.
func prime() *big.Int { return new(big.Int).Sub(power(130), big.NewInt(5)) }

// numberOf is the number of a text's bytes, the lowest first.
func numberOf(s string) *big.Int {
	n := new(big.Int)
	for i := len(s) - 1; i >= 0; i-- {
		n.Lsh(n, 8).Add(n, big.NewInt(int64(s[i])))
	}
	return n
}

// textOf is the lowest 16 bytes of a number, the lowest first.
func textOf(n *big.Int) string {
	b := make([]byte, 16)
	rest := new(big.Int).Set(n)
	for i := range b {
		b[i] = byte(new(big.Int).Mod(rest, big.NewInt(256)).Int64())
		rest.Rsh(rest, 8)
	}
	return string(b)
}

// plainClamp is the Clamp of 16 bytes as the document tells it, byte by byte.
func plainClamp(s string) string {
	b := []byte(s)
	for i := range b {
		switch i {
		case 3, 7, 11, 15:
			b[i] %= 16
		case 4, 8, 12:
			b[i] = b[i] / 4 * 4
		}
	}
	return string(b)
}

// plainSum is a behind all blocks of a text, as the document counts it.
func plainSum(r *big.Int, s string) *big.Int {
	a := new(big.Int)
	for i := 0; i < len(s); i += 16 {
		a.Add(a, numberOf(s[i:min(i+16, len(s))]+"\x01"))
		a.Mod(a.Mul(a, r), prime())
	}
	return a
}

// plainMac is Mac as the document counts it.
func plainMac(key, s string) string {
	a := plainSum(numberOf(plainClamp(key[:16])), s)
	return textOf(a.Add(a, numberOf(key[16:])))
}

// texts are such of n bytes: of 0s, of 255s, with every byte in its turn, without a pattern, and such that end with 0s.
func texts(n int) []string {
	turn, mixed := make([]byte, n), make([]byte, n)
	seed := uint64(n) + 10
	for i := range n {
		turn[i] = byte(i)
		seed = seed*6364136223846793005 + 1442695040888963407
		mixed[i] = byte(seed >> 56)
	}
	ended := string(mixed[:n/2]) + strings.Repeat("\x00", n-n/2)
	return []string{strings.Repeat("\x00", n), strings.Repeat("\xff", n), string(turn), string(mixed), ended}
}

// zeros are n bytes 0, and fulls n bytes 255.
func zeros(n int) string { return strings.Repeat("\x00", n) }
func fulls(n int) string { return strings.Repeat("\xff", n) }

// keys are such of every kind, with first halves of one bit alone among them.
func keys() []string {
	l := append(texts(32), fulls(16)+zeros(16), zeros(16)+fulls(16), "\x01"+zeros(15)+fulls(16), "\x02"+zeros(31))
	for i := range 128 {
		b := make([]byte, 16)
		b[i/8] = 1 << (i % 8)
		l = append(l, string(b)+texts(16)[3])
	}
	return l
}

// bytesOf is the text with those hexadecimal digits; spaces between them are passed over.
func bytesOf(digits string) string {
	b, err := hex.DecodeString(strings.ReplaceAll(digits, " ", ""))
	if err != nil {
		panic(err)
	}
	return string(b)
}

// checkMac holds Mac against the plain count.
func checkMac(t *testing.T, key, s string) {
	t.Helper()
	if got, err := poly.Mac(key, s); got != plainMac(key, s) || err != api.OK {
		t.Errorf("Mac of %x and %d bytes (%x..): %x, %d; want %x", key, len(s), s[:min(16, len(s))], got, err, plainMac(key, s))
	}
}

// 10.1: a key of 0s: 16 bytes 0, whatever the text.
func TestKeyOfZeros(t *testing.T) {
	for _, n := range []int{0, 1, 15, 16, 17, 31, 32, 33, 64, 1000, 5000} {
		for _, s := range texts(n) {
			if got, err := poly.Mac(zeros(32), s); got != zeros(16) || err != api.OK {
				t.Errorf("a text of %d bytes: %x, %d", n, got, err)
			}
		}
	}
}

// 10.1: a factor of 0s, also if that is the Clamp's work alone: the tag is the key's last 16 bytes, whatever the text.
func TestFactorOfZeros(t *testing.T) {
	masked := bytesOf("000000f0 030000f0 030000f0 030000f0")
	for _, first := range []string{zeros(16), masked} {
		for _, last := range texts(16) {
			for _, n := range []int{0, 1, 15, 16, 17, 100} {
				if got, err := poly.Mac(first+last, texts(n)[3]); got != last || err != api.OK {
					t.Errorf("%x and a text of %d bytes: %x, %d; want %x", first, n, got, err, last)
				}
			}
		}
	}
}

// 10.1: no text has no blocks: the tag is the key's last 16 bytes.
func TestNoText(t *testing.T) {
	for _, key := range keys() {
		if got, err := poly.Mac(key, ""); got != key[16:] || err != api.OK {
			t.Errorf("%x: %x, %d", key, got, err)
		}
	}
}

// 10.1: RFC 8439's example (2.5.2) and those of its appendix (A.3).
func TestExamples(t *testing.T) {
	ietf := "Any submission to the IETF intended by the Contributor for publication as all or part of an IETF Internet-Draft or RFC and any statement made within the context of an IETF activity is considered an \"IETF Contribution\". Such statements include oral statements in IETF sessions, as well as written and electronic communications made at any time or place, which are addressed to"
	twas := "'Twas brillig, and the slithy toves\nDid gyre and gimble in the wabe:\nAll mimsy were the borogoves,\nAnd the mome raths outgrabe."
	half := bytesOf("36e5f6b5c5e06070f0efca96227a863e")
	through := bytesOf("0100000000000000 0400000000000000") + zeros(16)
	three := bytesOf("e33594d7505e43b9 0000000000000000 3394d7505e4379cd 0100000000000000") + zeros(16)
	for i, c := range []struct{ key, text, want string }{
		{bytesOf("85d6be7857556d337f4452fe42d506a8 0103808afb0db2fd4abff6af4149f51b"), "Cryptographic Forum Research Group", "a8061dc1305136c6c22b8baf0c0127a9"},
		{zeros(32), zeros(64), "00000000000000000000000000000000"},
		{zeros(16) + half, ietf, "36e5f6b5c5e06070f0efca96227a863e"},
		{half + zeros(16), ietf, "f3477e7cd95417af89a6b8794c310cf0"},
		{bytesOf("1c9240a5eb55d38af333888604f6b5f0 473917c1402b80099dca5cbc207075c0"), twas, "4541669a7eaaee61e708dc7cbcc5eb62"},
		// a comes around 2^130 - 5.
		{"\x02" + zeros(31), fulls(16), "03000000000000000000000000000000"},
		// The sum with the key's last 16 bytes passes 2^128.
		{"\x02" + zeros(15) + fulls(16), "\x02" + zeros(15), "03000000000000000000000000000000"},
		// A carry goes through all words.
		{"\x01" + zeros(31), fulls(16) + "\xf0" + fulls(15) + "\x11" + zeros(15), "05000000000000000000000000000000"},
		// a is just 2^130 - 5, which is 0.
		{"\x01" + zeros(31), fulls(16) + "\xfb" + strings.Repeat("\xfe", 15) + strings.Repeat("\x01", 16), "00000000000000000000000000000000"},
		// a is 2^130 - 6, which stays.
		{"\x02" + zeros(31), "\xfd" + fulls(15), "faffffffffffffffffffffffffffffff"},
		// The sums of products pass 2^130, with a carry and without one.
		{through, three + "\x01" + zeros(15), "14000000000000005500000000000000"},
		{through, three, "13000000000000000000000000000000"},
	} {
		if got, err := poly.Mac(c.key, c.text); got != bytesOf(c.want) || err != api.OK {
			t.Errorf("example %d: %x, %d; want %s", i, got, err, c.want)
		}
	}
}

// 10.1: texts of lengths at the edges of blocks and of some thousands of bytes, with keys of every kind.
func TestMac(t *testing.T) {
	for _, key := range keys() {
		for _, n := range []int{0, 1, 15, 16, 17, 31, 32, 33, 47, 48, 49, 64, 100} {
			for _, s := range texts(n) {
				checkMac(t, key, s)
			}
		}
	}
	for _, key := range texts(32) {
		for _, n := range []int{2048, 4096, 5000, 5008} {
			for _, s := range texts(n) {
				checkMac(t, key, s)
			}
		}
	}
}

// 10.1: texts of every length up to some blocks, so that each ends somewhere else in its last one.
func TestMacEveryLength(t *testing.T) {
	for n := range 150 {
		for _, s := range texts(n) {
			checkMac(t, texts(32)[2], s)
			checkMac(t, texts(32)[3], s)
		}
	}
}

// 10.1: texts and keys of bytes 255 alone, which make the greatest sums.
func TestMacFull(t *testing.T) {
	for n := range 400 {
		checkMac(t, fulls(32), fulls(n))
	}
	checkMac(t, fulls(32), fulls(100_000))
}

// 10.1: each bit of a text of some blocks has its say, and its place.
func TestMacEveryBit(t *testing.T) {
	seen := map[string]bool{}
	for i := range 40 * 8 {
		b := []byte(texts(40)[3])
		b[i/8] ^= 1 << (i % 8)
		checkMac(t, texts(32)[3], string(b))
		got, _ := poly.Mac(texts(32)[3], string(b))
		seen[got] = true
	}
	if len(seen) != 40*8 {
		t.Errorf("%d texts have %d tags", 40*8, len(seen))
	}
}

// 10.1: many keys and texts without a pattern, as pieces of a long one.
func TestMacMany(t *testing.T) {
	long := texts(20_000)[3]
	for i := range 3000 {
		checkMac(t, long[5*i:5*i+32], long[3*i:3*i+i%70])
	}
}

// 10.1: a long text, of 1 MiB and some bytes.
func TestMacLong(t *testing.T) {
	checkMac(t, texts(32)[3], texts(1<<20 + 7)[3])
}

// block is the block that makes a just the target behind some blocks by the factor r; false if there is none, as its byte 1 stands in the way.
func block(r, target *big.Int, ahead string) (string, bool) {
	m := new(big.Int).ModInverse(r, prime())
	m.Mul(m, target).Sub(m, plainSum(r, ahead)).Mod(m, prime())
	m.Sub(m, power(128))
	return textOf(m), m.Sign() >= 0 && m.Cmp(power(128)) < 0
}

// 10.1: a is just below the prime, just 0, and around the powers of 2 where words end, behind blocks that were chosen for it.
func TestMacAtEdges(t *testing.T) {
	var targets []*big.Int
	for d := range int64(12) {
		targets = append(targets, big.NewInt(d), new(big.Int).Sub(prime(), big.NewInt(1+d)))
		for _, n := range []uint{26, 32, 52, 64, 78, 96, 104, 128, 129} {
			targets = append(targets, new(big.Int).Add(power(n), big.NewInt(d-6)))
		}
	}
	long, tried := texts(5000)[3], 0
	for _, first := range []string{"\x01" + zeros(15), "\x02" + zeros(15), "\x04" + zeros(15), texts(16)[1], texts(16)[2], texts(16)[3]} {
		r := numberOf(plainClamp(first))
		for _, target := range targets {
			for k := range 200 {
				ahead := long[16*k : 16*k+32]
				last, ok := block(r, target, ahead)
				if !ok {
					continue
				}
				tried++
				if plainSum(r, ahead+last).Cmp(target) != 0 {
					t.Fatalf("the block for %x by %x misses it", target, r)
				}
				for _, end := range []string{zeros(16), fulls(16), "\x01" + zeros(15), "\x05" + zeros(15), "\xfb" + fulls(15), long[:16]} {
					checkMac(t, first+end, ahead+last)
					checkMac(t, first+end, ahead+last+"more")
				}
				break
			}
		}
	}
	if tried < 5*len(targets) {
		t.Errorf("only %d of %d were tried", tried, 6*len(targets))
	}
}

// 10.1: the sum with the key's last 16 bytes passes 2^128 or not: what is above is let go, and every carry is taken.
func TestMacLastSum(t *testing.T) {
	first := texts(16)[3]
	for _, s := range []string{"a", texts(16)[3], texts(50)[3]} {
		a, _ := poly.Mac(first+zeros(16), s)
		for d := range int64(5) {
			last := new(big.Int).Sub(power(128), numberOf(a))
			key := first + textOf(last.Add(last, big.NewInt(d-2)))
			want := new(big.Int).Mod(big.NewInt(d-2), power(128))
			if got, err := poly.Mac(key, s); got != textOf(want) || err != api.OK {
				t.Errorf("%x and %q: %x, %d; want %x", key, s, got, err, textOf(want))
			}
			checkMac(t, key, s)
		}
	}
}

// 10.1: the byte 1 stands right behind the last bytes: a text and the same one with bytes 0 behind it have different tags.
func TestMacByteBehind(t *testing.T) {
	for n := range 70 {
		for _, s := range texts(n) {
			seen := map[string]int{}
			for k := range 20 {
				got, _ := poly.Mac(texts(32)[3], s+zeros(k))
				if other, ok := seen[got]; ok {
					t.Errorf("a text of %d bytes with %d bytes 0 behind it has the tag of the one with %d", n, k, other)
				}
				seen[got] = k
			}
		}
	}
}

// 10.1: blocks stand in their order, and a short one is no other's beginning.
func TestMacOrder(t *testing.T) {
	key, one, two := texts(32)[3], texts(16)[3], texts(16)[2]
	ahead, _ := poly.Mac(key, one+two)
	behind, _ := poly.Mac(key, two+one)
	short, _ := poly.Mac(key, one+two[:5])
	filled, _ := poly.Mac(key, one+two[:5]+one[5:])
	if ahead == behind || short == filled {
		t.Errorf("%x and %x, %x and %x", ahead, behind, short, filled)
	}
	checkMac(t, key, one+two[:5])
	checkMac(t, key, fulls(16)+"a")
}

// 10.1: Clamp of 16 bytes 255, of 16 bytes 0 and of others, byte by byte.
func TestClamp(t *testing.T) {
	for _, c := range []struct{ s, want string }{
		{fulls(16), bytesOf("ffffff0f fcffff0f fcffff0f fcffff0f")},
		{zeros(16), zeros(16)},
		{bytesOf("85d6be78 57556d33 7f4452fe 42d506a8"), bytesOf("85d6be08 54556d03 7c44520e 40d50608")},
		{bytesOf("000000f0 030000f0 030000f0 030000f0"), zeros(16)},
		{bytesOf("ffffff0f fcffff0f fcffff0f fcffff0f"), bytesOf("ffffff0f fcffff0f fcffff0f fcffff0f")},
	} {
		if got, err := poly.Clamp(c.s); got != c.want || err != api.OK {
			t.Errorf("%x: %x, %d; want %x", c.s, got, err, c.want)
		}
	}
}

// 10.1: each byte of each value at each place is clamped by its place alone.
func TestClampEveryByte(t *testing.T) {
	for i := range 16 {
		for v := range 256 {
			for _, around := range []string{zeros(16), fulls(16), texts(16)[3]} {
				s := around[:i] + string([]byte{byte(v)}) + around[i+1:]
				if got, err := poly.Clamp(s); got != plainClamp(s) || err != api.OK {
					t.Errorf("%x: %x, %d; want %x", s, got, err, plainClamp(s))
				}
			}
		}
	}
}

// 10.1: what is clamped twice is as clamped once.
func TestClampTwice(t *testing.T) {
	for _, key := range keys() {
		once, _ := poly.Clamp(key[:16])
		if twice, err := poly.Clamp(once); twice != once || err != api.OK {
			t.Errorf("%x: %x, and then %x, %d", key[:16], once, twice, err)
		}
	}
}

// 10.1: Mac by a key is Mac by the key whose first 16 bytes are clamped; its last ones are not.
func TestMacClamps(t *testing.T) {
	for _, key := range keys() {
		first, _ := poly.Clamp(key[:16])
		last, _ := poly.Clamp(key[16:])
		for _, n := range []int{1, 16, 17, 100} {
			got, _ := poly.Mac(key, texts(n)[3])
			if want, err := poly.Mac(first+key[16:], texts(n)[3]); got != want || err != api.OK {
				t.Errorf("%x and %d bytes: %x; clamped %x, %d", key, n, got, want, err)
			}
			other, _ := poly.Mac(first+last, texts(n)[3])
			if last != key[16:] && got == other {
				t.Errorf("%x and %d bytes: its last bytes are clamped, too", key, n)
			}
		}
	}
}

// 10.1, R2: ErrSize, and nothing beside it, of keys that haven't 32 bytes, and of texts to clamp that haven't 16; an empty text is no way around.
func TestErrSize(t *testing.T) {
	for _, n := range append(sizes(100), 255, 256, 256+16, 256+32, 1<<16, 1<<16+16, 1<<16+32) {
		for _, key := range texts(n) {
			for _, s := range []string{"", "a", texts(16)[3], texts(32)[3], texts(100)[3]} {
				if got, err := poly.Mac(key, s); n != 32 && (got != "" || err != api.ErrSize) || n == 32 && err != api.OK {
					t.Errorf("Mac of a key of %d bytes and a text of %d: %x, %d", n, len(s), got, err)
				}
			}
			if got, err := poly.Clamp(key); n != 16 && (got != "" || err != api.ErrSize) || n == 16 && err != api.OK {
				t.Errorf("Clamp of %d bytes: %x, %d", n, got, err)
			}
		}
	}
}

// sizes are the numbers below n.
func sizes(n int) []int {
	var l []int
	for i := range n {
		l = append(l, i)
	}
	return l
}

// R5: the same arguments have the same answer again, behind other calls, refused ones among them, and as pieces of other texts.
func TestAgain(t *testing.T) {
	type answers struct{ tag, clamped string }
	ask := func(key, s string) answers {
		tag, _ := poly.Mac(key, s)
		clamped, _ := poly.Clamp(key[:min(16, len(key))])
		return answers{tag, clamped}
	}
	lengths := []int{0, 1, 16, 17, 33, 200}
	var first []answers
	for _, key := range keys() {
		for _, n := range lengths {
			first = append(first, ask(key, texts(n)[3]))
			ask(key[1:], texts(n)[3])
			ask(key[:9], fulls(40))
		}
	}
	for i, key := range keys() {
		for j, n := range lengths {
			want := first[i*len(lengths)+j]
			if got := ask(key, texts(n)[3]); got != want {
				t.Errorf("%x and %d bytes: %x, and ahead of it %x", key, n, got, want)
			}
			whole := "ahead" + key + texts(n)[3] + "behind"
			if got := ask(whole[5:37], whole[37:37+n]); got != want {
				t.Errorf("%x and %d bytes, as pieces: %x, and ahead of it %x", key, n, got, want)
			}
		}
	}
}

// 10.1: a tag has 16 bytes, and so has what is clamped.
func TestSizes(t *testing.T) {
	for _, key := range keys() {
		clamped, _ := poly.Clamp(key[:16])
		for n := range 40 {
			if got, _ := poly.Mac(key, texts(n)[3]); len(got) != 16 || len(clamped) != 16 {
				t.Errorf("%x and %d bytes: a tag of %d bytes; %d clamped", key, n, len(got), len(clamped))
			}
		}
	}
}
