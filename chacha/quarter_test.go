package chacha

import "testing"

// 9.1: RFC 8439's example of a quarter round (2.1.1).
func TestQuarter(t *testing.T) {
	a, b, c, d := quarter(0x11111111, 0x01020304, 0x9b8d6f43, 0x01234567)
	if got, want := [4]uint32{a, b, c, d}, [4]uint32{0xea2a92f4, 0xcb1cf8ce, 0x4581472e, 0x5881c4bb}; got != want {
		t.Errorf("%08x; want %08x", got, want)
	}
}

// 9.1: RFC 8439's example of a quarter round on a state (2.2.1): it is a diagonal's.
func TestQuarterOfState(t *testing.T) {
	s := state{
		0x879531e0, 0xc5ecf37d, 0x516461b1, 0xc9a62f8a, 0x44c20ef3, 0x3390af7f, 0xd9fc690b, 0x2a5f714c,
		0x53372767, 0xb00a5631, 0x974c541a, 0x359e9963, 0x5c971061, 0x3d631689, 0x2098d9d6, 0x91dbd320,
	}
	want := s
	want[2], want[7], want[8], want[13] = 0xbdb886dc, 0xcfacafd2, 0xe46bea80, 0xccc07c79
	at := quarters[6]
	s[at[0]], s[at[1]], s[at[2]], s[at[3]] = quarter(s[at[0]], s[at[1]], s[at[2]], s[at[3]])
	if s != want {
		t.Errorf("%08x; want %08x", s, want)
	}
}

// 9.1: RFC 8439's example of a block, ahead of all rounds and behind them (2.3.2).
func TestRounds(t *testing.T) {
	key := make([]byte, 32)
	for i := range key {
		key[i] = byte(i)
	}
	s, err := begin(string(key), "\x00\x00\x00\x09\x00\x00\x00\x4a\x00\x00\x00\x00", 1)
	want := state{
		0x61707865, 0x3320646e, 0x79622d32, 0x6b206574, 0x03020100, 0x07060504, 0x0b0a0908, 0x0f0e0d0c,
		0x13121110, 0x17161514, 0x1b1a1918, 0x1f1e1d1c, 0x00000001, 0x09000000, 0x4a000000, 0x00000000,
	}
	if s != want || err != 0 {
		t.Errorf("ahead of the rounds: %08x, %d; want %08x", s, err, want)
	}
	want = state{
		0x837778ab, 0xe238d763, 0xa67ae21e, 0x5950bb2f, 0xc4f2d0c7, 0xfc62bb2f, 0x8fa018fc, 0x3f5ec7b7,
		0x335271c2, 0xf29489f3, 0xeabda8fc, 0x82e46ebd, 0xd19c12b4, 0xb04e16de, 0x9e83d0cb, 0x4e3c50a2,
	}
	if got := mix(s); got != want {
		t.Errorf("behind the rounds: %08x; want %08x", got, want)
	}
}
