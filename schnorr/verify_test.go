package schnorr_test

import (
	"math/big"
	"strings"
	"testing"

	"sandglass/api"
)

// 31.1: a good proof with a byte turned, each in some ways.
func TestVerifyOfTurned(t *testing.T) {
	t.Parallel()
	p, s := ofBase(5), made(t, api.Num{5}, api.Num{9}, "x")
	taken(t, "a good one", p, s, "x")
	for i := range s {
		for _, by := range []byte{1, 0x80, 0xff} {
			refused(t, "a byte turned", p, turned(s, i, s[i]^by), "x")
		}
	}
}

// 31.1: of other lengths than 65 bytes.
func TestVerifyOfLengths(t *testing.T) {
	t.Parallel()
	p, s := ofBase(5), made(t, api.Num{5}, api.Num{9}, "x")
	for n := range s {
		refused(t, "a beginning", p, s[:n], "x")
		refused(t, "an end", p, s[n+1:], "x")
	}
	for _, more := range []string{"\x00", "\x01", s[:1], s[64:], s, strings.Repeat("\x00", 65), strings.Repeat("\x00", 1000)} {
		refused(t, "bytes behind it", p, s+more, "x")
		refused(t, "bytes ahead of it", p, more+s, "x")
	}
	refused(t, "a byte 0 ahead of z", p, s[:33]+"\x00"+s[33:], "x")
	short := made(t, api.Num{1}, api.Num{1}, low)
	taken(t, "a short z", base, short, low)
	refused(t, "a short z without its bytes 0", base, short[:33]+short[37:], low)
	refused(t, "a short z with its bytes 0 behind it", base, short[:33]+short[37:]+"\x00\x00\x00\x00", low)
}

// 31.1: a first byte that is neither 2 nor 3, and the opposite R.
func TestVerifyOfFirstByte(t *testing.T) {
	t.Parallel()
	for _, r := range []api.Num{{1}, {9}, beside(q, -1)} {
		p, s := ofBase(5), made(t, api.Num{5}, r, "x")
		for b := range 256 {
			verify(t, "a first byte", p, turned(s, 0, byte(b)), "x", byte(b) == s[0])
		}
	}
}

// 31.1: the opposite R with a z that goes with it alone is a proof; with the first one's it is none.
func TestVerifyOfOppositeFirst(t *testing.T) {
	t.Parallel()
	p := ofBase(5)
	s, o := made(t, api.Num{5}, api.Num{9}, "x"), made(t, api.Num{5}, beside(q, -9), "x")
	if s[1:33] != o[1:33] || s[0] == o[0] {
		t.Fatalf("%x and %x", s, o)
	}
	taken(t, "the opposite R, with its z", p, o, "x")
	refused(t, "the opposite R", p, o[:33]+s[33:], "x")
	refused(t, "the opposite R", p, s[:33]+o[33:], "x")
}

// 31.1: an x of no point of the curve, and x at and beyond the field's prime.
func TestVerifyOfNoFirst(t *testing.T) {
	t.Parallel()
	p, s := ofBase(5), made(t, api.Num{5}, api.Num{9}, "x")
	off := 0
	for x := uint64(0); x < 20; x++ {
		for _, mark := range []string{"\x02", "\x03"} {
			if _, is := decoded(mark + bytesOf(api.Num{x})); !is {
				off++
			}
			refused(t, "another x", p, mark+bytesOf(api.Num{x})+s[33:], "x")
		}
	}
	if off == 0 {
		t.Error("no x without a point")
	}
	for _, x := range []api.Num{prime, beside(prime, 1), beside(prime, -1), beside(prime, 5), most, q, {}} {
		for _, mark := range []string{"\x02", "\x03"} {
			refused(t, "an x at its edges", p, mark+bytesOf(x)+s[33:], "x")
		}
	}
}

// 31.1: z that are other ones, and those at q and beyond.
func TestVerifyOfOtherNumbers(t *testing.T) {
	t.Parallel()
	p, s := ofBase(5), made(t, api.Num{5}, api.Num{9}, "x")
	l := append(noSecrets(), api.Num{1}, beside(q, -1), beside(q, -2))
	z := new(big.Int).SetBytes([]byte(s[33:]))
	for _, d := range []int64{-1, 1} {
		l = append(l, modulo(new(big.Int).Add(z, big.NewInt(d))))
	}
	l = append(l, modulo(new(big.Int).Neg(z)), fromBig(new(big.Int).Add(z, order)))
	for _, other := range l {
		refused(t, "another z", p, s[:33]+bytesOf(other), "x")
	}
}

// 31.1: a good z with q added to it counts modulo q as the good one, and is refused nevertheless.
func TestVerifyOfNumbersBeyond(t *testing.T) {
	t.Parallel()
	for _, more := range []string{low, beyond} {
		s := made(t, api.Num{1}, api.Num{1}, more)
		z := new(big.Int).SetBytes([]byte(s[33:]))
		z.Add(z, order)
		if z.BitLen() > 256 {
			t.Fatalf("%x: z and q have more than 256 bits", s)
		}
		taken(t, "a low z", base, s, more)
		refused(t, "a low z, and q", base, s[:33]+bytesOf(fromBig(z)), more)
	}
}

// 31.1: for another text.
func TestVerifyOfOtherTexts(t *testing.T) {
	t.Parallel()
	text := allBytes()
	p := ofBase(5)
	for _, n := range []int{0, 1, 55, 56, 63, 64, 65, 119, 120, 256} {
		more := text[:n]
		s := made(t, api.Num{5}, api.Num{9}, more)
		taken(t, "its text", p, s, more)
		refused(t, "a longer text", p, s, more+"\x00")
		refused(t, "a text with more ahead", p, s, "\x00"+more)
		if n > 0 {
			refused(t, "a shorter text", p, s, more[:n-1])
			refused(t, "no text", p, s, "")
			refused(t, "a text with a bit turned", p, s, turned(more, n-1, more[n-1]^1))
			refused(t, "a text with its first bit turned", p, s, turned(more, 0, more[0]^0x80))
		}
	}
}

// 31.1: of another point, of the opposite one.
func TestVerifyOfOtherPoints(t *testing.T) {
	t.Parallel()
	for _, k := range []api.Num{{1}, {5}, beside(q, -1), modulo(toBig(mixed))} {
		p, s := multiple(k, base), made(t, k, api.Num{9}, "x")
		taken(t, "its point", p, s, "x")
		refused(t, "the opposite point", opposite(p), s, "x")
		for _, other := range append(points(), ofBase(9)) {
			verify(t, "another point", other, s, "x", other == p)
		}
	}
}

// 31.1: points that are none, or count as None. They have no bytes, and a multiple that counts nothing: with r as z a proof would fit them, whatever the challenge is.
func TestVerifyOfNoPoint(t *testing.T) {
	t.Parallel()
	s := made(t, api.Num{5}, api.Num{9}, "x")
	for _, r := range []api.Num{{9}, {1}, beside(q, -1)} {
		forged := encoded(multiple(r, base)) + bytesOf(r)
		for _, p := range wrong() {
			refused(t, "a forged one", p, forged, "x")
			refused(t, "a proof", p, s, "x")
		}
		refused(t, "a forged one", base, forged, "x")
	}
}

// 31.1: first bytes that are no point's. If R counted as None there, a z that is the challenge of P alone, times k, would fit.
func TestVerifyOfForgedFirst(t *testing.T) {
	t.Parallel()
	k, p := mixed, multiple(mixed, base)
	x := encoded(ofBase(9))[1:]
	firsts := []string{strings.Repeat("\x00", 33), strings.Repeat("\xff", 33)}
	for _, mark := range []string{"\x00", "\x01", "\x04", "\x05", "\xff"} {
		firsts = append(firsts, mark+x)
	}
	for _, mark := range []string{"\x02", "\x03"} {
		for _, n := range []api.Num{{1}, prime, beside(prime, 5), beside(prime, 6), most} {
			firsts = append(firsts, mark+bytesOf(n))
		}
	}
	c := toBig(plainChallenge(none, p, "x"))
	z := bytesOf(modulo(c.Mul(c, toBig(k))))
	for _, first := range firsts {
		if _, is := decoded(first); is {
			t.Errorf("%x is a point", first)
		}
		refused(t, "no R", p, first+z, "x")
		refused(t, "no R, and a z of 0", p, first+strings.Repeat("\x00", 32), "x")
	}
}

// 31.1: forged ones that would fit, if one of the words were another one: the challenge's place, its sign, what it is made of.
func TestVerifyOfForged(t *testing.T) {
	t.Parallel()
	p, r := ofBase(5), ofBase(9)
	// fits is of R = 9 times the base the proof of 5 that this challenge would make.
	fits := func(c api.Num, r int64) string {
		z := new(big.Int).Mul(toBig(c), big.NewInt(5))
		return encoded(ofBase(9)) + bytesOf(modulo(z.Add(z, big.NewInt(r))))
	}
	c := plainChallenge(r, p, "x")
	minus := modulo(new(big.Int).Neg(toBig(c)))
	taken(t, "the right one", p, fits(c, 9), "x")
	for what, s := range map[string]string{
		"a challenge of 0":           fits(api.Num{}, 9),
		"a challenge of 1":           fits(api.Num{1}, 9),
		"the challenge less":         fits(minus, 9),
		"r less":                     fits(c, -9),
		"both less":                  fits(minus, -9),
		"R and P exchanged":          fits(plainChallenge(p, r, "x"), 9),
		"R alone":                    fits(plainChallenge(r, none, "x"), 9),
		"P alone":                    fits(plainChallenge(none, p, "x"), 9),
		"no text":                    fits(plainChallenge(r, p, ""), 9),
		"no points":                  fits(plainChallenge(none, none, "x"), 9),
		"a z of 0":                   encoded(opposite(multiple(c, p))) + strings.Repeat("\x00", 32),
		"P as R":                     encoded(p) + fits(c, 9)[33:],
		"the base as R":              encoded(base) + bytesOf(api.Num{1}),
		"bytes 0":                    strings.Repeat("\x00", 65),
		"bytes 255":                  strings.Repeat("\xff", 65),
		"z with its low bytes first": lowFirst(fits(c, 9)),
	} {
		refused(t, what, p, s, "x")
	}
}

// lowFirst is a proof with the bytes of z the other way round.
func lowFirst(s string) string {
	b := []byte(s)
	for i := range 32 {
		b[33+i] = s[64-i]
	}
	return string(b)
}

// 31.1: a proof of one that counts as R itself: k and r may be one number.
func TestVerifyOfEqual(t *testing.T) {
	t.Parallel()
	for _, k := range []api.Num{{1}, {7}, beside(q, -1)} {
		s := made(t, k, k, "x")
		taken(t, "k by k", multiple(k, base), s, "x")
		refused(t, "k by k, of the opposite", opposite(multiple(k, base)), s, "x")
		minus := modulo(new(big.Int).Neg(toBig(k)))
		taken(t, "k by -k", multiple(k, base), made(t, k, minus, "x"), "x")
	}
}
