package dleq_test

import (
	"encoding/hex"
	"slices"
	"strings"
	"testing"

	"sandglass/api"
	"sandglass/dleq"
)

// Texts, found by search, that are rare: about one of 2^32 is such.
const (
	noneBeyond = "3n0kc47" // the sum of dleq and this is a number beyond q
	noneLow    = "d127rr"  // the sum of dleq and this begins with 4 bytes 0
	beyond     = "1h19yig" // of a proof by 1 of q - 1 on the base the sum is beyond q; c and z are less than 2^256 - q
	low        = "132l8hw" // of a proof by 1 of q - 1 on the base the sum begins with 4 bytes 0; so do c and z
)

type knownProof struct {
	h    api.Point
	k, r api.Num
	more string
	want string
}

// allBytes is a text of each byte.
func allBytes() string {
	var b strings.Builder
	for i := range 256 {
		b.WriteByte(byte(i))
	}
	return b.String()
}

// knownProofs are what another program answers.
func knownProofs() []knownProof {
	last, small := beside(q, -1), points()[7]
	return []knownProof{
		{ofBase(7), api.Num{5}, api.Num{9}, "x", "6e21352177e035e991d81a9656d054b79975019ffd64f6bb151f656bedf8130dd959f655a89ef27326c77b104dee5869376be7e9024e09e77190652d4f5110bb"},
		{base, api.Num{1}, api.Num{1}, "", "3b99789bda1d03302980caa3f0134f9af77fb32fcfb20064f3cdf987e6f7757fc466876325e2fcd0d67f355c0fecb064c567477dd7659e1fffebd13b156bafd3"},
		{ofBase(-1), last, last, "", "cabe8c572ba17e907adc325c4beeb4c29f83d447e2e83d2db6810e9bfe97ea62cabe8c572ba17e907adc325c4beeb4c29f83d447e2e83d2db6810e9bfe97ea61"},
		{base, api.Num{1}, last, "a text", "ba57ca171b795c8e5a7a1febdb6b6b8927b45d295f599116fa103cdb353f036e45a835e7e486a372a585e0142494947695329d8447be0d6df9a98de7c72421e2"},
		{small, mixed, api.Num{77}, allBytes(), "1ebd29aa9253ae121004da69e66752747972e5b00771a05de48970e1551c774c4d2acb0f591308b3e5f601c51c235ac454ece4a81d7c6a1317ad29b959a1d0fe"},
		{multiple(mixed, base), api.Num{2}, mixed, strings.Repeat("\x00", 1000), "3c55cff59b0455b0f229c5a27e2b0e97dff8889f05ab1ea717e0d597cab2e83776a29f65437adbe4631148ce0be300be32616f87d1de7b2ef36e6c12f6c1be74"},
		{base, last, api.Num{1}, beyond, "00000000337d306a077bcbec6b04b34fb3a8600838513c0bcdbf7309de35c15200000000337d306a077bcbec6b04b34fb3a8600838513c0bcdbf7309de35c153"},
		{base, last, api.Num{1}, low, "000000001514233b501f8b57d8da1629c76ef4aab86fce32f47936bec00ca727000000001514233b501f8b57d8da1629c76ef4aab86fce32f47936bec00ca728"},
	}
}

type knownChallenge struct {
	l    []api.Point
	more string
	want api.Num
}

// knownChallenges are what another program answers.
func knownChallenges() []knownChallenge {
	one, minus, two, small := base, ofBase(-1), ofBase(2), points()[7]
	return []knownChallenge{
		{nil, "", num("2389540412d7e711442b2a882a2fe0b63a3ba82c6084248dc60556010ec52b80")},
		{nil, "abc", num("615fb73c4d509899a570cb1933056cbfd55d6b276e23092e2c8870f072c239ba")},
		{[]api.Point{one}, "", num("1e8ec76184b76a6bd5bb276797d4f45e18129a59250ab35708290ada369105c6")},
		{[]api.Point{one, two}, "abc", num("fdadfeb9074268c98213f8acbbafcbe1ad71cfa5e46449844b10c674a4930cbd")},
		{[]api.Point{two, one}, "abc", num("d7cd9ac535daf148cc34b8faac3a3ff676e0592bfa646915d245c162e0d88891")},
		{[]api.Point{two, none, one}, "abc", num("d7cd9ac535daf148cc34b8faac3a3ff676e0592bfa646915d245c162e0d88891")},
		{[]api.Point{multiple(mixed, base), minus, small, small, two}, strings.Repeat("\xff", 300), num("d38724ce7159b396c44952269a433ecdafaf0da0d4ceddfe224cdfe7d47ad96f")},
		{slices.Repeat([]api.Point{one}, 100), "x", num("830a23799484f36428d4d888038a1306761fa45b889c7dfba952a382773dc389")},
		{nil, noneBeyond, num("2618fd0ee87466cdec273b0314aa2225d2de1e9989a7908493e0c751")},
		{nil, noneLow, num("3c53dbe674c5e49dcb2e041a80c968975ed2003d804f0b317cb44803")},
		{[]api.Point{one, minus, minus, one, one}, beyond, num("337d306a077bcbec6b04b34fb3a8600838513c0bcdbf7309de35c152")},
		{[]api.Point{one, minus, minus, one, one}, low, num("1514233b501f8b57d8da1629c76ef4aab86fce32f47936bec00ca727")},
	}
}

// The example of the chapter: a proof of k on h does not go for another b.
func TestExample(t *testing.T) {
	h, k := ofBase(7), api.Num{5}
	s, err := dleq.Prove(h, k, api.Num{9}, "a text")
	if len(s) != 64 || err != api.OK {
		t.Fatalf("Prove: %x, %d", s, err)
	}
	if !dleq.Verify(h, ofBase(5), ofBase(35), s, "a text") {
		t.Errorf("Verify of %x: refused", s)
	}
	for _, b := range append(points(), ofBase(36), ofBase(34), ofBase(-35), ofBase(5), ofBase(7), none) {
		if dleq.Verify(h, ofBase(5), b, s, "a text") {
			t.Errorf("Verify of %x goes for %v", s, b)
		}
	}
}

// 32.1: what another program answers.
func TestKnown(t *testing.T) {
	t.Parallel()
	for _, x := range knownProofs() {
		s, err := dleq.Prove(x.h, x.k, x.r, x.more)
		if hex.EncodeToString([]byte(s)) != x.want || err != api.OK {
			t.Errorf("Prove(%v, %x, %x, %q): %x, %d; want %s", x.h, x.k, x.r, x.more, s, err, x.want)
		}
		if !dleq.Verify(x.h, multiple(x.k, base), multiple(x.k, x.h), s, x.more) {
			t.Errorf("Verify(%x, %q): refused", s, x.more)
		}
	}
	for _, x := range knownChallenges() {
		if got := dleq.Challenge(x.l, x.more); got != x.want {
			t.Errorf("Challenge(%v, %q): %x; want %x", x.l, x.more, got, x.want)
		}
	}
}
