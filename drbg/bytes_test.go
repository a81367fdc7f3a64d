package drbg_test

import (
	"strings"
	"testing"

	"sandglass/api"
	"sandglass/drbg"
)

// 29.1: n at its edges, each behind each, and all the small ones.
func TestBytes(t *testing.T) {
	t.Parallel()
	edges := []int{0, 1, 2, 31, 32, 33, 63, 64, 65, 95, 96, 97, 127, 128, 4063, 4064, 4065, 4095, 4096}
	for _, n := range edges {
		for _, k := range []int{0, 1, 32, 33, 64, 4096} {
			x := newPair(t, "seed")
			x.bytes(t, n, k, n)
			if t.Failed() {
				t.Fatalf("%d, %d", n, k)
			}
		}
	}
	for n := range 200 {
		newPair(t, "seed").bytes(t, n, 32)
	}
}

// 29.1: that many bytes are told, and they begin as the most that are told begin.
func TestBytesBegin(t *testing.T) {
	t.Parallel()
	all, err := drbg.New("seed").Bytes(most)
	if len(all) != most || err != api.OK {
		t.Fatalf("%d bytes, %d", len(all), err)
	}
	for n := 0; n <= most; n += 1 + n/20 {
		checkBytes(t, drbg.New("seed"), n, all[:n], api.OK)
	}
	// No 32 bytes stand in it twice.
	seen := map[string]bool{}
	for at := 0; at < most; at += 32 {
		seen[all[at:at+32]] = true
	}
	if len(seen) != 128 {
		t.Errorf("%d of 128 pieces differ", len(seen))
	}
}

// 29.1: other n are refused, and nothing is done: what follows is as if it had not been asked.
func TestBytesRefused(t *testing.T) {
	t.Parallel()
	for i, n := range wrongLengths() {
		d := drbg.New("seed")
		checkBytes(t, d, n, "", api.ErrArg)
		checkAsked(t, d, 0)
		same(t, drbg.New("seed"), d)
		x := newPair(t, "seed")
		x.bytes(t, n, 32, n, n, i%70, n, 0, n)
		x.scalars(t, 1)
		x.bytes(t, n, 1, n)
		x.reseed("more")
		x.bytes(t, n, 32)
		if t.Failed() {
			t.Fatalf("%d", n)
		}
	}
}

// 29.1: bytes at once are not the same bytes as in parts, but for the first part; each part is followed by an update by nothing.
func TestBytesInParts(t *testing.T) {
	for _, parts := range [][]int{{32, 32}, {1, 1}, {31, 1}, {1, 63}, {32, 1}, {64, 64, 64}, {0, 32}, {0, 0, 1}, {33, 31}, {2048, 2048}} {
		whole, inParts := drbg.New("seed"), drbg.New("seed")
		n, joined := 0, ""
		for _, k := range parts {
			n += k
			s, err := inParts.Bytes(k)
			if len(s) != k || err != api.OK {
				t.Fatalf("%d of %d bytes, %d", len(s), k, err)
			}
			joined += s
		}
		s, err := whole.Bytes(n)
		if len(s) != n || err != api.OK || s == joined || s[:parts[0]] != joined[:parts[0]] {
			t.Errorf("%d: %s, %d; in parts %s", parts, digits(s), err, digits(joined))
		}
		checkAsked(t, whole, n)
		checkAsked(t, inParts, n)
		differ(t, whole, inParts)
		x := newPair(t, "seed")
		x.bytes(t, parts...)
	}
}

// 29.1: how many steps of the value there were counts, not how many of its bytes were told.
func TestBytesSteps(t *testing.T) {
	for _, l := range [][]int{{1, 2, 31, 32}, {33, 34, 63, 64}, {65, 96}, {4065, 4096}} {
		for _, n := range l {
			one, two := drbg.New("seed"), drbg.New("seed")
			one.Bytes(l[0])
			two.Bytes(n)
			same(t, one, two)
		}
	}
	var l []*drbg.Drbg
	for _, n := range []int{0, 1, 33, 65, 97, 4064, 4096} {
		d := drbg.New("seed")
		d.Bytes(n)
		l = append(l, d)
	}
	differ(t, append(l, drbg.New("seed"))...)
}

// 29.1: what follows a Bytes of 0 is what follows an update by nothing, and not what follows nothing.
func TestBytesOfNothing(t *testing.T) {
	for _, seed := range []string{"", "seed", "\x00", strings.Repeat("long", 100)} {
		one, two := drbg.New(seed), drbg.New(seed)
		for range 3 {
			checkBytes(t, one, 0, "", api.OK)
			two.Reseed("")
			checkAsked(t, one, two.Asked())
			same(t, one, two)
		}
		one, two = drbg.New(seed), drbg.New(seed)
		checkBytes(t, one, 0, "", api.OK)
		differ(t, one, two)
	}
}
