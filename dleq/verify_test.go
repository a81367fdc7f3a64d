package dleq_test

import (
	"math/big"
	"strings"
	"testing"

	"sandglass/api"
)

// aGood is a proof by 9 that the secret of 5 times the base and of 35 times it, which is 5 times 7 times it, are one.
func aGood(t *testing.T) (said, string) {
	t.Helper()
	h, k := ofBase(7), api.Num{5}
	return of(h, k), made(t, h, k, api.Num{9}, "x")
}

// 32.1: a good proof with a byte turned, each in some ways.
func TestVerifyOfTurned(t *testing.T) {
	t.Parallel()
	g, s := aGood(t)
	taken(t, "a good one", g, s, "x")
	for i := range s {
		for _, by := range []byte{1, 0xff} {
			refused(t, "a byte turned", g, turned(s, i, s[i]^by), "x")
		}
	}
}

// 32.1: of other lengths than 64 bytes.
func TestVerifyOfLengths(t *testing.T) {
	t.Parallel()
	g, s := aGood(t)
	for n := range s {
		refused(t, "a beginning", g, s[:n], "x")
		refused(t, "an end", g, s[n+1:], "x")
	}
	for _, more := range []string{"\x00", "\x01", s[:1], s[63:], s, strings.Repeat("\x00", 64), strings.Repeat("\x00", 1000)} {
		refused(t, "bytes behind it", g, s+more, "x")
		refused(t, "bytes ahead of it", g, more+s, "x")
	}
	refused(t, "a byte 0 ahead of z", g, s[:32]+"\x00"+s[32:], "x")
	refused(t, "zeros", g, strings.Repeat("\x00", 64), "x")
	refused(t, "bytes 255", g, strings.Repeat("\xff", 64), "x")
	last := beside(q, -1)
	short := made(t, base, last, api.Num{1}, low)
	taken(t, "short numbers", of(base, last), short, low)
	refused(t, "a short z without its bytes 0", of(base, last), short[:32]+short[36:], low)
	refused(t, "a short z with its bytes 0 behind it", of(base, last), short[:32]+short[36:]+"\x00\x00\x00\x00", low)
	refused(t, "a short c without its bytes 0", of(base, last), short[4:], low)
	refused(t, "a short c with its bytes 0 behind it", of(base, last), short[4:32]+"\x00\x00\x00\x00"+short[32:], low)
}

// 32.1: c and z that are other ones, and those at q and beyond.
func TestVerifyOfOtherNumbers(t *testing.T) {
	t.Parallel()
	g, s := aGood(t)
	l := append(noSecrets(), api.Num{1}, beside(q, -1), beside(q, -2))
	for _, other := range l {
		refused(t, "another c", g, bytesOf(other)+s[32:], "x")
		refused(t, "another z", g, s[:32]+bytesOf(other), "x")
		refused(t, "others", g, bytesOf(other)+bytesOf(other), "x")
	}
	c, z := new(big.Int).SetBytes([]byte(s[:32])), new(big.Int).SetBytes([]byte(s[32:]))
	for _, d := range []int64{-1, 1} {
		refused(t, "a c beside it", g, bytesOf(modulo(new(big.Int).Add(c, big.NewInt(d))))+s[32:], "x")
		refused(t, "a z beside it", g, s[:32]+bytesOf(modulo(new(big.Int).Add(z, big.NewInt(d)))), "x")
	}
	refused(t, "the opposite c", g, bytesOf(modulo(new(big.Int).Neg(c)))+s[32:], "x")
	refused(t, "the opposite z", g, s[:32]+bytesOf(modulo(new(big.Int).Neg(z))), "x")
	refused(t, "c and z exchanged", g, s[32:]+s[:32], "x")
	refused(t, "c twice", g, s[:32]+s[:32], "x")
	refused(t, "z twice", g, s[32:]+s[32:], "x")
}

// 32.1: a good c or z with q added to it counts modulo q as the good one, and is refused nevertheless.
func TestVerifyOfNumbersBeyond(t *testing.T) {
	t.Parallel()
	last := beside(q, -1)
	g := of(base, last)
	for _, more := range []string{low, beyond} {
		s := made(t, base, last, api.Num{1}, more)
		taken(t, "low numbers", g, s, more)
		refused(t, "low numbers exchanged", g, s[32:]+s[:32], more)
		var up [2]string
		for i := range up {
			n := new(big.Int).SetBytes([]byte(s[32*i : 32*i+32]))
			if n.Add(n, order); n.BitLen() > 256 {
				t.Fatalf("%x: a number and q have more than 256 bits", s)
			}
			up[i] = bytesOf(fromBig(n))
		}
		refused(t, "a low c, and q", g, up[0]+s[32:], more)
		refused(t, "a low z, and q", g, s[:32]+up[1], more)
		refused(t, "both, and q", g, up[0]+up[1], more)
	}
}

// 32.1: for another text.
func TestVerifyOfOtherTexts(t *testing.T) {
	t.Parallel()
	text := allBytes()
	h, k := ofBase(7), api.Num{5}
	g := of(h, k)
	for _, n := range []int{0, 1, 55, 56, 64, 256} {
		more := text[:n]
		s := made(t, h, k, api.Num{9}, more)
		taken(t, "its text", g, s, more)
		refused(t, "a longer text", g, s, more+"\x00")
		refused(t, "a text with more ahead", g, s, "\x00"+more)
		if n > 0 {
			refused(t, "a shorter text", g, s, more[:n-1])
			refused(t, "no text", g, s, "")
			refused(t, "a text with a bit turned", g, s, turned(more, n-1, more[n-1]^1))
			refused(t, "a text with its first bit turned", g, s, turned(more, 0, more[0]^0x80))
		}
	}
}

// 32.1: of other points, of the opposite ones, of the same ones in other places.
func TestVerifyOfOtherPoints(t *testing.T) {
	t.Parallel()
	g, s := aGood(t)
	for what, other := range map[string]said{
		"the opposite h":    {opposite(g.h), g.a, g.b},
		"the opposite a":    {g.h, opposite(g.a), g.b},
		"the opposite b":    {g.h, g.a, opposite(g.b)},
		"opposite h and b":  {opposite(g.h), g.a, opposite(g.b)},
		"opposite a and b":  {g.h, opposite(g.a), opposite(g.b)},
		"opposite ones":     {opposite(g.h), opposite(g.a), opposite(g.b)},
		"a and b exchanged": {g.h, g.b, g.a},
		"h and a exchanged": {g.a, g.h, g.b},
		"h and b exchanged": {g.b, g.a, g.h},
		"turned round":      {g.a, g.b, g.h},
		"turned back":       {g.b, g.h, g.a},
		"a as b":            {g.h, g.a, g.a},
		"b as a":            {g.h, g.b, g.b},
		"h thrice":          {g.h, g.h, g.h},
		"another secret":    of(g.h, api.Num{6}),
		"on another point":  of(ofBase(8), api.Num{5}),
		"on the base":       of(base, api.Num{5}),
	} {
		refused(t, what, other, s, "x")
	}
	for _, p := range points() {
		refused(t, "another h", said{p, g.a, g.b}, s, "x")
		refused(t, "another a", said{g.h, p, g.b}, s, "x")
		refused(t, "another b", said{g.h, g.a, p}, s, "x")
	}
}

// 32.1: proofs of other secrets do not go for one that is none.
func TestVerifyOfTwoSecrets(t *testing.T) {
	t.Parallel()
	h, five, six := ofBase(7), api.Num{5}, api.Num{6}
	for what, g := range map[string]said{
		"5 and 6": {h, multiple(five, base), multiple(six, h)},
		"6 and 5": {h, multiple(six, base), multiple(five, h)},
	} {
		l := []api.Point{g.h, g.a, g.b, ofBase(9), multiple(api.Num{9}, h)}
		c := plainChallenge(l, "x")
		for _, k := range []api.Num{five, six} {
			refused(t, what, g, made(t, h, k, api.Num{9}, "x"), "x")
			refused(t, what+", by their own Challenge", g, bytesOf(c)+bytesOf(lessTimes(api.Num{9}, c, k)), "x")
			taken(t, "of one secret", of(h, k), made(t, h, k, api.Num{9}, "x"), "x")
		}
	}
}

// 32.1: each of h, a and b that is none, or counts as None.
func TestVerifyOfNoPoint(t *testing.T) {
	t.Parallel()
	g, s := aGood(t)
	for _, w := range wrong() {
		for _, no := range []said{{w, g.a, g.b}, {g.h, w, g.b}, {g.h, g.a, w}, {w, w, g.b}, {w, g.a, w}, {g.h, w, w}, {w, w, w}} {
			refused(t, "a proof", no, s, "x")
		}
	}
}

// forged is a proof by the Challenge of these sums, whatever they are sums of.
func forged(g said, first, second api.Point, k, r api.Num) string {
	c := plainChallenge([]api.Point{g.h, g.a, g.b, first, second}, "x")
	return bytesOf(c) + bytesOf(lessTimes(r, c, k))
}

// 32.1: points that count as None. Their multiples count nothing, and they have no bytes: these proofs would fit them.
func TestVerifyOfForgedPoints(t *testing.T) {
	t.Parallel()
	h, k, zero := ofBase(7), api.Num{5}, api.Num{}
	l := wrong()
	for i, w := range l {
		for _, v := range []api.Point{w, none, l[(i+3)%len(l)]} {
			for _, r := range []api.Num{{9}, {1}, beside(q, -1), {}} {
				g := said{h, w, v}
				refused(t, "no a and no b", g, forged(g, multiple(r, base), multiple(r, h), zero, r), "x")
				g = said{w, multiple(k, base), v}
				refused(t, "no h and no b", g, forged(g, multiple(r, base), none, k, r), "x")
				g = said{w, v, w}
				refused(t, "none of them", g, forged(g, multiple(r, base), none, zero, r), "x")
			}
		}
	}
}

// 32.1: the sums that go into the Challenge may be None: nothing of them is in it then, and a proof that fits is one.
func TestVerifyOfSumsThatAreNone(t *testing.T) {
	t.Parallel()
	for _, h := range []api.Point{base, ofBase(7), ofBase(-1)} {
		for _, k := range []api.Num{{1}, {5}, beside(q, -1), modulo(toBig(mixed))} {
			g := of(h, k)
			s := forged(g, none, none, k, api.Num{})
			taken(t, "both None", g, s, "x")
			refused(t, "both None, for another text", g, s, "y")
			refused(t, "both None, of another secret", of(h, api.Num{6}), s, "x")
		}
	}
}

// 32.1: where one sum is None, and the other one is not, no proof fits.
func TestVerifyOfOneSumThatIsNone(t *testing.T) {
	t.Parallel()
	h, k := ofBase(7), api.Num{5}
	for _, other := range []api.Num{{1}, {6}, beside(q, -5)} {
		first, second := said{h, multiple(k, base), multiple(other, h)}, said{h, multiple(other, base), multiple(k, h)}
		for _, g := range []said{first, second} {
			refused(t, "one None, taken as both", g, forged(g, none, none, k, api.Num{}), "x")
			refused(t, "one None", g, forged(g, none, h, k, api.Num{}), "x")
			refused(t, "one None", g, forged(g, base, none, k, api.Num{}), "x")
		}
	}
}

// 32.1: forged ones that would fit, if one of the words were another one: what the Challenge is made of, the signs, the places.
func TestVerifyOfForged(t *testing.T) {
	t.Parallel()
	g, s := aGood(t)
	k, r, first, second := api.Num{5}, api.Num{9}, ofBase(9), ofBase(63)
	fits := func(l ...api.Point) string {
		c := plainChallenge(l, "x")
		return bytesOf(c) + bytesOf(lessTimes(r, c, k))
	}
	if fits(g.h, g.a, g.b, first, second) != s {
		t.Fatalf("%x", s)
	}
	taken(t, "the right one", g, s, "x")
	for what, l := range map[string][]api.Point{
		"no points":             {},
		"without h":             {g.a, g.b, first, second},
		"without a":             {g.h, g.b, first, second},
		"without b":             {g.h, g.a, first, second},
		"without the first":     {g.h, g.a, g.b, second},
		"without the second":    {g.h, g.a, g.b, first},
		"without both":          {g.h, g.a, g.b},
		"the sums alone":        {first, second},
		"the first twice":       {g.h, g.a, g.b, first, first},
		"the second twice":      {g.h, g.a, g.b, second, second},
		"the sums exchanged":    {g.h, g.a, g.b, second, first},
		"a and b exchanged":     {g.h, g.b, g.a, first, second},
		"h last":                {g.a, g.b, first, second, g.h},
		"the base ahead":        {base, g.h, g.a, g.b, first, second},
		"pairs":                 {g.h, g.a, first, g.b, second},
		"the sums ahead":        {first, second, g.h, g.a, g.b},
		"the opposite first":    {g.h, g.a, g.b, opposite(first), second},
		"the opposite second":   {g.h, g.a, g.b, first, opposite(second)},
		"both of them opposite": {g.h, g.a, g.b, opposite(first), opposite(second)},
	} {
		refused(t, what, g, fits(l...), "x")
	}
}

// 32.1: who knows k can make a z that goes with any c, so that both sums are r's own: c is the Challenge nevertheless, in all of its bytes.
func TestVerifyOfChosenChallenge(t *testing.T) {
	t.Parallel()
	g, s := aGood(t)
	k, r := api.Num{5}, api.Num{9}
	fits := func(c api.Num) string { return bytesOf(c) + bytesOf(lessTimes(r, c, k)) }
	c := fromBig(new(big.Int).SetBytes([]byte(s[:32])))
	if fits(c) != s {
		t.Fatalf("%x", s)
	}
	for i := 0; i < 256; i += 3 {
		other := c
		other[i/64] ^= 1 << (i % 64)
		refused(t, "a bit of c turned", g, fits(other), "x")
	}
	for _, other := range append(noSecrets(), api.Num{1}, beside(q, -1), k, r) {
		refused(t, "a chosen c", g, fits(other), "x")
	}
	for i := range c {
		other, alone := c, api.Num{}
		other[i], alone[i] = 0, c[i]
		refused(t, "a word of c that is 0", g, fits(other), "x")
		refused(t, "a word of c alone", g, fits(alone), "x")
	}
	// A c with q added to it goes with the same z.
	last := beside(q, -1)
	few := made(t, base, last, api.Num{1}, low)
	n := new(big.Int).SetBytes([]byte(few[:32]))
	refused(t, "a low c, and q", of(base, last), bytesOf(fromBig(n.Add(n, order)))+few[32:], low)
}

// 32.1: forged ones of another sum than z times the point plus c times its multiple.
func TestVerifyOfForgedNumbers(t *testing.T) {
	t.Parallel()
	g, s := aGood(t)
	k, r := api.Num{5}, api.Num{9}
	c := fromBig(new(big.Int).SetBytes([]byte(s[:32])))
	minus := func(n api.Num) api.Num { return lessTimes(api.Num{}, n, api.Num{1}) }
	for what, z := range map[string]api.Num{
		"r and c times k":      lessTimes(r, minus(c), k),
		"c times k less r":     lessTimes(minus(r), minus(c), k),
		"r and c times k less": lessTimes(minus(r), c, k),
		"r":                    r,
		"c times k":            lessTimes(api.Num{}, minus(c), k),
		"r less k":             lessTimes(r, api.Num{1}, k),
		"r less c":             lessTimes(r, c, api.Num{1}),
		"k less c times r":     lessTimes(k, c, r),
	} {
		refused(t, what, g, bytesOf(c)+bytesOf(z), "x")
		refused(t, what+", with c less", g, bytesOf(minus(c))+bytesOf(z), "x")
	}
	low := []byte(s)
	for i := range 32 {
		low[i], low[32+i] = s[31-i], s[63-i]
	}
	refused(t, "the low bytes first", g, string(low), "x")
	refused(t, "the low bytes of c first", g, string(low[:32])+s[32:], "x")
	refused(t, "the low bytes of z first", g, s[:32]+string(low[32:]), "x")
	refused(t, "z first", g, s[32:]+s[:32], "x")
}
