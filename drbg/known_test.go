package drbg_test

import (
	"strings"
	"testing"

	"sandglass/api"
	"sandglass/drbg"
)

// told is what the Bytes of n are behind a seed and the Bytes of those ahead.
type told struct {
	seed  string
	ahead []int
	n     int
	want  string
}

// known are values that are published (the first of the tests of HMAC_DRBG with SHA-256 of the CAVP: entropy and nonce are the seed), and values of another program.
func known() []told {
	return []told{
		{bytesOf("ca851911349384bffe89de1cbdc46e6831e44d34a4fb935ee285dd14b71a7488" + "659ba96c601dc69fc902940805ec0ca8"), []int{128}, 128, bytesOf(
			"e528e9abf2dece54d47c7e75e5fe302149f817ea9fb4bee6f4199697d04d5b89d54fbb978a15b5c443c9ec21036d2460b6f73ebad0dc2aba6e624abf07745bc1" +
				"07694bb7547bb0995f70de25d6b29e2d3011bb19d27676c07162c8b5ccde0668961df86803482cb37ed6d5c0bb8d50cf1f50d476aa0458bdaba806f48be9dcb8")},
		{"", nil, 32, bytesOf("b44299907e4e42aa4fded5d6153e8bac3f35987bbe5fa08865c45339214784a2")},
		{"\x00", nil, 32, bytesOf("67f90809a1fab09908c0d7d95f981790520018325a6ed6d39df6e04c086be13e")},
		{"seed", nil, 32, bytesOf("945418b8333283ae441104ff0af8ab77c755914dbcd4971f9db434098d72cc5f")},
		{"other", nil, 32, bytesOf("b3997a8634ec1e5e1778e7c0009a3865c1daa244a222e4d168807c63bdd490f5")},
		{strings.Repeat("a", 32), nil, 32, bytesOf("e73263df2c62f5cc89cf9619677e0ecb49d58df04a967ac9ca64a4e9ccb30ba2")},
		{strings.Repeat("a", 64), nil, 32, bytesOf("4b87a687d4f690107a958028892cd00dee7d48300e94eb19920d8929915b857f")},
		{strings.Repeat("a", 65), nil, 32, bytesOf("41920008f3ecf2d2d0236f1b9e1cc2059a7d34f8ad2921cde560647a99ab49c5")},
		{"seed", []int{0}, 1, bytesOf("9e")},
		{"seed", []int{0, 1}, 31, bytesOf("1366c175c1e22b8b767ea7f3cb7d31ea690bddbb68d6916f318e46a882b9ac")},
		{"seed", []int{0, 1, 31}, 33, bytesOf("e460dd2b3d1cedd39d958511f25e86c9caac23bef296d478b017149e398a5a6ae8")},
		{"seed", []int{0, 1, 31, 33}, 64, bytesOf("6186d2b2c7e3c773dca5ccf83d60b2671b6723d9ec698cb4806e68f184217a14e3e89f02d00716523c8a5480f4fd86f0b00f430184e3890a0dba22ec5a0518cb")},
	}
}

// toldScalar is what the first Scalar of a seed is.
type toldScalar struct {
	seed string
	want api.Num
}

// knownScalars are those of RFC 6979, A.2.5, with SHA-256: the seed is a key of P-256, and the sum of a message modulo q; what is told is the number by which that message is signed.
func knownScalars() []toldScalar {
	const key = "c9afa9d845ba75166b5c215767b1d6934e50c3db36e89b127b8a622b120f6721"
	return []toldScalar{
		{bytesOf(key + digest("sample")), numOfDigits("a6e3c57dd01abe90086538398355dd4c3b17aa873382b0f24d6129493d8aad60")},
		{bytesOf(key + digest("test")), numOfDigits("d16b6ae827f17175e040871a1c7ec3500192c4c92677336ec2537acaee0008e0")},
	}
}

// 29.1: what is published, and what another program tells.
func TestKnownBytes(t *testing.T) {
	for _, k := range known() {
		d := drbg.New(k.seed)
		for _, n := range k.ahead {
			d.Bytes(n)
		}
		checkBytes(t, d, k.n, k.want, api.OK)
	}
}

// 29.1: as many bytes as are told at once, of another program: by their sums.
func TestKnownMost(t *testing.T) {
	for _, k := range []struct{ seed, want string }{
		{"", "8f14a22c9576380bc7939e231759cf01291789f58d9c0306a8474b38d44d7391"},
		{"\x00", "042b602b9236c3cd2f9bbb14184892ffab02af899629ba09984755cd865b0213"},
		{"seed", "15827a1c3ec777e37211ac116e7cef446904a07f870ae0f13519d9b5c589656f"},
		{strings.Repeat("a", 65), "73e4915c878a57d893a3be0018283f4036a41aeb51c8c4d23b268b1a015ba6dd"},
		{texts(200)[3], "c766d422bea5f12d7490c62e91c35e77fc0e708159e4edf0ef12f2599d302e6f"},
	} {
		s, err := drbg.New(k.seed).Bytes(most)
		if got := digest(s); len(s) != most || got != k.want || err != api.OK {
			t.Errorf("seed %s: %d bytes, %s, %d; want %s", digits(k.seed), len(s), got, err, k.want)
		}
	}
}

// 29.1, 29.2: a row of calls, of another program.
func TestKnownRow(t *testing.T) {
	d := drbg.New("seed")
	for _, n := range []int{0, 1, 31, 33, 64} {
		d.Bytes(n)
	}
	d.Reseed("")
	checkBytes(t, d, 32, bytesOf("868fcb41ed4e87bd3702473083e0122dbcdf65acb962d7707c15b01b67eb9dbb"), api.OK)
	d.Reseed("more")
	checkBytes(t, d, 32, bytesOf("d8e757fa6340be6f0a5299cb987f09ee3eca77ee1700914e8fe6f89a1c350cc9"), api.OK)
	checkScalar(t, d, numOfDigits("f48c331f95bc3fe21e3378c25514e30e14197e242f4048c70ea9e8314d72d9ea"))
	checkAsked(t, d, 225)
}

// 29.2: what is published.
func TestKnownScalars(t *testing.T) {
	for _, k := range knownScalars() {
		checkScalar(t, drbg.New(k.seed), k.want)
	}
}
