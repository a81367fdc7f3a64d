package schnorr_test

import (
	"encoding/hex"
	"strings"
	"testing"

	"sandglass/api"
	"sandglass/schnorr"
)

// Texts, found by search, that are rare: about one of 2^32 is such.
const (
	noneBeyond = "2hhdazv" // the sum of schnorr and this is a number beyond q
	beyond     = "8cecpj"  // of the base, twice, the sum is beyond q; the z of k and r of 1 is less than 2^256 - q
	low        = "ul8ay1"  // of the base, twice, the sum begins with 4 bytes 0; so does the z of k and r of 1
)

type knownProof struct {
	k, r api.Num
	more string
	want string
}

// allBytes is a text of each byte.
func allBytes() string {
	var b strings.Builder
	for i := range 256 {
		b.WriteByte(byte(i))
	}
	return b.String()
}

// knownProofs are what another program answers.
func knownProofs() []knownProof {
	last := beside(q, -1)
	return []knownProof{
		{api.Num{5}, api.Num{9}, "x", "02ea68d7b6fedf0b71878938d51d71f8729e0acb8c2c6df8b3d79e8a4b90949ee02d5c62ff42d111653d2aa1038cdb9a54266e2a0459643577dc2d44d16fac5cb9"},
		{api.Num{1}, api.Num{1}, "", "036b17d1f2e12c4247f8bce6e563a440f277037d812deb33a0f4a13945d898c296e720f7b424988f6c5ed47036c9f9724afdd5019e276f9aad58e2dd060edf6bc1"},
		{last, last, "", "026b17d1f2e12c4247f8bce6e563a440f277037d812deb33a0f4a13945d898c2964725da0f1795be893fd39f5b5f694ec2c6fcd437420bea68af5180fddab09078"},
		{api.Num{1}, last, "a text", "026b17d1f2e12c4247f8bce6e563a440f277037d812deb33a0f4a13945d898c296ed6cae2576e91bad3219c040cf1d454060422e4672120889dfea78f7d50ad7f0"},
		{mixed, api.Num{77}, allBytes(), "035821b002dba277251a9d18eb72d5c720f4efe021b38029c017d871340893be7b82b5313351386a7e54b1dbea2a19db7669c50705531618a5be7193d9ba601839"},
		{api.Num{2}, mixed, strings.Repeat("\x00", 1000), "03300c3ad4e4ac89bddb346bb3c66cbc846e46895b6492a534d922a62dffb351414810d56d9b15a7fbb0f30464f156a7d9d478f5f2b8b9ff01ad7f6648d207794f"},
		{api.Num{1}, api.Num{1}, beyond, "036b17d1f2e12c4247f8bce6e563a440f277037d812deb33a0f4a13945d898c296000000007a627c377283c5c952f71e45b634b3143d57a6547fda94cd4ac8c11a"},
		{api.Num{1}, api.Num{1}, low, "036b17d1f2e12c4247f8bce6e563a440f277037d812deb33a0f4a13945d898c29600000000223ca8cdce86737d9c6b7a83396c323be7d4e681bf4e0eae852ed895"},
	}
}

type knownChallenge struct {
	r, p api.Point
	more string
	want api.Num
}

// knownChallenges are what another program answers.
func knownChallenges() []knownChallenge {
	two, one := ofBase(2), base
	return []knownChallenge{
		{none, none, "", num("9050f384e6a0327d1a252ac5f3447ab8adcb5074bab9c7a22fde4e12333b35eb")},
		{one, none, "", num("d75bb987348fda6ed0db6609dc4b060ea808a3e82faba5e8fa1e0df47f72fce6")},
		{none, one, "", num("d75bb987348fda6ed0db6609dc4b060ea808a3e82faba5e8fa1e0df47f72fce6")},
		{one, two, "abc", num("3d4f450d0a307711777d32e29053b8c48c8c865ac4b4a93d21588c2f9118d66f")},
		{two, one, "abc", num("8d28b3108a279bdbdd0e3cd5e15eb17cd47b4bf16291d45f3080976e924cc125")},
		{multiple(mixed, base), ofBase(-1), strings.Repeat("\xff", 300), num("30f1e71a34f29623f887e219bbc53fba1598f3158371e521ad588446147a5763")},
		{none, none, noneBeyond, num("43200c75efd9b1ef39a00f24c83f3118f2a7fff1211b7af7dc6df6ec")},
		{one, one, beyond, num("7a627c377283c5c952f71e45b634b3143d57a6547fda94cd4ac8c119")},
		{one, one, low, num("223ca8cdce86737d9c6b7a83396c323be7d4e681bf4e0eae852ed894")},
	}
}

// The example of the chapter: a proof for another text is refused.
func TestExample(t *testing.T) {
	s, err := schnorr.Prove(api.Num{5}, api.Num{9}, "a text")
	if len(s) != 65 || err != api.OK {
		t.Fatalf("Prove: %x, %d", s, err)
	}
	if !schnorr.Verify(ofBase(5), s, "a text") || schnorr.Verify(ofBase(5), s, "another text") {
		t.Errorf("Verify of %x", s)
	}
}

// 31.1: what another program answers.
func TestKnown(t *testing.T) {
	t.Parallel()
	for _, x := range knownProofs() {
		s, err := schnorr.Prove(x.k, x.r, x.more)
		if hex.EncodeToString([]byte(s)) != x.want || err != api.OK {
			t.Errorf("Prove(%x, %x, %q): %x, %d; want %s", x.k, x.r, x.more, s, err, x.want)
		}
		if !schnorr.Verify(multiple(x.k, base), s, x.more) {
			t.Errorf("Verify(%x, %q): refused", s, x.more)
		}
	}
	for _, x := range knownChallenges() {
		if got := schnorr.Challenge(x.r, x.p, x.more); got != x.want {
			t.Errorf("Challenge(%v, %v, %q): %x; want %x", x.r, x.p, x.more, got, x.want)
		}
	}
}
