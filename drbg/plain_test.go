package drbg_test

import (
	"crypto/hmac"
	"crypto/sha256"
	"encoding/binary"
	"encoding/hex"
	"math"
	"math/big"
	"slices"
	"strings"
	"testing"

	"sandglass/api"
)

// most is the greatest number of bytes that are told at once, written out.
const most = 4096

// orderDigits are those of q.
const orderDigits = "ffffffff00000000ffffffffffffffffbce6faada7179e84f3b9cac2fc632551"

// plainDrbg is the document's words, one by one, by the library's HMAC and its big numbers.
type plainDrbg struct {
	k, v []byte
	told int
}

func libraryMac(key, s []byte) []byte {
	h := hmac.New(sha256.New, key)
	h.Write(s)
	return h.Sum(nil)
}

func newPlain(seed string) *plainDrbg {
	p := &plainDrbg{k: slices.Repeat([]byte{0}, 32), v: slices.Repeat([]byte{1}, 32)}
	p.update(seed)
	return p
}

func (p *plainDrbg) update(text string) {
	p.k = libraryMac(p.k, slices.Concat(p.v, []byte{0}, []byte(text)))
	p.v = libraryMac(p.k, p.v)
	if len(text) == 0 {
		return
	}
	p.k = libraryMac(p.k, slices.Concat(p.v, []byte{1}, []byte(text)))
	p.v = libraryMac(p.k, p.v)
}

func (p *plainDrbg) bytes(n int) (string, api.Errno) {
	if n < 0 || n > most {
		return "", api.ErrArg
	}
	var all []byte
	for len(all) < n {
		p.v = libraryMac(p.k, p.v)
		all = append(all, p.v...)
	}
	p.update("")
	p.told += n
	return string(all[:n]), api.OK
}

func (p *plainDrbg) scalar() api.Num {
	order, _ := new(big.Int).SetString(orderDigits, 16)
	for range 64 {
		s, _ := p.bytes(32)
		n := new(big.Int).SetBytes([]byte(s))
		if n.Sign() > 0 && n.Cmp(order) < 0 {
			return numOf(n)
		}
	}
	return api.Num{1}
}

func (p *plainDrbg) poly(n int) []api.Num {
	var l []api.Num
	for i := 0; i < n && i < 8; i++ {
		l = append(l, p.scalar())
	}
	return l
}

// numOf is the number in words.
func numOf(n *big.Int) api.Num {
	var a api.Num
	b := n.FillBytes(make([]byte, 32))
	for i := range a {
		a[i] = binary.BigEndian.Uint64(b[24-8*i:])
	}
	return a
}

// numOfDigits is the number with those hexadecimal digits.
func numOfDigits(digits string) api.Num {
	n, ok := new(big.Int).SetString(digits, 16)
	if !ok {
		panic(digits)
	}
	return numOf(n)
}

// bytesOf is the text with those hexadecimal digits.
func bytesOf(digits string) string {
	b, err := hex.DecodeString(digits)
	if err != nil {
		panic(err)
	}
	return string(b)
}

// digits are a text's hexadecimal ones, those of its beginning.
func digits(s string) string {
	if len(s) > 40 {
		return hex.EncodeToString([]byte(s[:40])) + ".."
	}
	return hex.EncodeToString([]byte(s))
}

// digest is the library's sum of a text, in hexadecimal digits.
func digest(s string) string {
	d := sha256.Sum256([]byte(s))
	return hex.EncodeToString(d[:])
}

// texts are such of n bytes: of 0s, of 1s, of 255s, with every byte in its turn, without a pattern, and such that end with 0s.
func texts(n int) []string {
	turn, mixed := make([]byte, n), make([]byte, n)
	seed := uint64(n) + 29
	for i := range n {
		turn[i] = byte(i)
		seed = seed*6364136223846793005 + 1442695040888963407
		mixed[i] = byte(seed >> 56)
	}
	ended := string(mixed[:n/2]) + strings.Repeat("\x00", n-n/2)
	return []string{strings.Repeat("\x00", n), strings.Repeat("\x01", n), strings.Repeat("\xff", n), string(turn), string(mixed), ended}
}

// lengths are those of texts around a sum's, a block's, and such that end a block together with what stands ahead of the text in it; and of many bytes.
func lengths() []int {
	return []int{0, 1, 2, 21, 22, 23, 30, 31, 32, 33, 48, 54, 55, 56, 63, 64, 65, 86, 87, 95, 96, 97, 127, 128, 129, 300, 1000, 5000}
}

// seeds are texts of all of these lengths.
func seeds() []string {
	var l []string
	for _, n := range lengths() {
		l = append(l, texts(n)...)
	}
	return l
}

// farInts are ints at and near their edges, and such whose lowest bits are those of small ones.
func farInts() []int {
	var l []int
	for _, k := range []int{math.MaxInt, math.MaxInt / 2, math.MinInt, math.MinInt / 2} {
		for d := -2; d <= 2; d++ {
			l = append(l, k+d)
		}
	}
	for bit := 13; bit < 64; bit++ {
		k := 1 << bit
		l = append(l, k-1, k, k+1, k+32, -k, 1-k, -k-1, 32-k)
	}
	return l
}

// wrongLengths are ints of which there are no Bytes.
func wrongLengths() []int {
	return append([]int{-1, -2, -31, -32, -33, -4095, -4096, -4097, 4097, 4098, 4127, 4128, 4129, 8192}, farInts()...)
}

// The plain one tells what is published, and what another program tells.
func TestPlain(t *testing.T) {
	for _, k := range known() {
		p := newPlain(k.seed)
		for _, n := range k.ahead {
			p.bytes(n)
		}
		if s, err := p.bytes(k.n); s != k.want || err != api.OK {
			t.Errorf("seed %s: %s, %d; want %s", digits(k.seed), digits(s), err, digits(k.want))
		}
	}
	for _, k := range knownScalars() {
		if n := newPlain(k.seed).scalar(); n != k.want {
			t.Errorf("seed %s: %x; want %x", digits(k.seed), n, k.want)
		}
	}
	for _, n := range wrongLengths() {
		p := newPlain("seed")
		if s, err := p.bytes(n); s != "" || err != api.ErrArg || p.told != 0 {
			t.Errorf("%d: %s, %d", n, digits(s), err)
		}
	}
	if got := digest(strings.Repeat("a", 64)); got != "ffe054fe7ae0cb6dc65c3af9b61d5209f439851db43d0ba5997337df154668eb" {
		t.Errorf("the digest is %s", got)
	}
	if got := numOfDigits("1000000000000000200000000000000030000000000000004"); got != (api.Num{4, 3, 2, 1}) {
		t.Errorf("the number is %x", got)
	}
}
