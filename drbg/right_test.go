package drbg

import (
	"testing"

	"sandglass/api"
)

// q, and what stands beside it.
var (
	order    = api.Num{0xf3b9cac2fc632551, 0xbce6faada7179e84, 0xffffffffffffffff, 0xffffffff00000000}
	last     = api.Num{0xf3b9cac2fc632550, 0xbce6faada7179e84, 0xffffffffffffffff, 0xffffffff00000000}
	behind   = api.Num{0xf3b9cac2fc632552, 0xbce6faada7179e84, 0xffffffffffffffff, 0xffffffff00000000}
	prime    = api.Num{0xffffffffffffffff, 0x00000000ffffffff, 0, 0xffffffff00000001}
	greatest = api.Num{1<<64 - 1, 1<<64 - 1, 1<<64 - 1, 1<<64 - 1}
)

// checkRight holds what is answered of these numbers, told one behind the other, and how many of them were asked for.
func checkRight(t *testing.T, l []api.Num, want api.Num, wantAsked int) {
	t.Helper()
	asked := 0
	got := firstRight(func() api.Num {
		asked++
		return l[(asked-1)%len(l)]
	})
	if got != want || asked != wantAsked {
		t.Errorf("%x, of %d numbers; want %x, of %d", got, asked, want, wantAsked)
	}
}

// 29.2: numbers of 1 to q - 1 are right, and told at once.
func TestRight(t *testing.T) {
	for _, n := range []api.Num{{1}, {2}, {0, 1}, {0, 0, 1}, {0, 0, 0, 1}, last, {0, 0, 0, 0xffffffff00000000}, {1<<64 - 1, 1<<64 - 1, 1<<64 - 1, 0xfffffffeffffffff}} {
		checkRight(t, []api.Num{n, {5}}, n, 1)
	}
}

// 29.2: 0, and q and more, are passed over.
func TestPassedOver(t *testing.T) {
	wrong := []api.Num{{}, order, behind, prime, greatest}
	for _, n := range wrong {
		checkRight(t, []api.Num{n, {5}}, api.Num{5}, 2)
		checkRight(t, []api.Num{n, n, n, last, {5}}, last, 4)
	}
	checkRight(t, append(wrong, api.Num{9}), api.Num{9}, 6)
}

// 29.2: up to 64 are looked at; 1 is told, if none was right.
func TestNoneRight(t *testing.T) {
	for _, n := range []api.Num{{}, order, greatest} {
		row := make([]api.Num, 70)
		for i := range row {
			row[i] = n
		}
		checkRight(t, row, api.Num{1}, 64)
		row[64] = api.Num{5} // the 65th
		checkRight(t, row, api.Num{1}, 64)
		row[63] = api.Num{6}
		checkRight(t, row, api.Num{6}, 64)
		row[62] = api.Num{7}
		checkRight(t, row, api.Num{7}, 63)
	}
}

// 29.2: the first byte is the highest.
func TestNumberOf(t *testing.T) {
	b := make([]byte, size)
	for i := range b {
		b[i] = byte(i + 1)
	}
	want := api.Num{0x191a1b1c1d1e1f20, 0x1112131415161718, 0x090a0b0c0d0e0f10, 0x0102030405060708}
	if got := numberOf(string(b)); got != want {
		t.Errorf("%x; want %x", got, want)
	}
}
