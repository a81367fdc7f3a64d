package drbg_test

import (
	"strings"
	"testing"

	"sandglass/api"
	"sandglass/drbg"
)

// 29.1: what seeds of all lengths make; two steps of the value, and what follows.
func TestNew(t *testing.T) {
	t.Parallel()
	for _, seed := range seeds() {
		x := newPair(t, seed)
		checkAsked(t, x.d, 0)
		x.bytes(t, 64, 33)
		if t.Failed() {
			t.Fatalf("seed of %d bytes: %s", len(seed), digits(seed))
		}
	}
}

// 29.1: a seed of very many bytes.
func TestNewLong(t *testing.T) {
	t.Parallel()
	for _, seed := range texts(300000)[3:] {
		x := newPair(t, seed)
		x.bytes(t, 64, 33)
		x.reseed(seed)
		x.bytes(t, 64, 33)
	}
}

// 29.1: seeds that differ in their last byte, in their first one, by bytes 0 and 1 behind or ahead of them, by their length alone, are different ones.
func TestSeedsDiffer(t *testing.T) {
	t.Parallel()
	var l []*drbg.Drbg
	had := map[string]bool{}
	add := func(seed string) {
		t.Helper()
		if !had[seed] {
			had[seed] = true
			newPair(t, seed).bytes(t, 32)
			l = append(l, drbg.New(seed))
		}
	}
	for _, n := range []int{0, 1, 31, 32, 33, 63, 64, 65, 500} {
		for _, seed := range texts(n) {
			add(seed)
			for _, more := range []string{"\x00", "\x00\x00", strings.Repeat("\x00", 32), strings.Repeat("\x00", 64), "\x01", "\x80"} {
				add(seed + more)
				add(more + seed)
			}
			if n > 0 {
				add(seed[:n-1] + string([]byte{seed[n-1] ^ 1}))
				add(seed[:n-1] + string([]byte{seed[n-1] ^ 0x80}))
				add(string([]byte{seed[0] ^ 1}) + seed[1:])
			}
		}
	}
	differ(t, l...)
	if len(l) < 500 {
		t.Errorf("%d seeds", len(l))
	}
}

// 29.1: a seed of no bytes makes one half of an update alone: a generator that is there, and not the one of a byte 0.
func TestNewOfNothing(t *testing.T) {
	x := newPair(t, "")
	x.bytes(t, 0, 32, 33)
	checkBytes(t, drbg.New(""), 32, bytesOf("b44299907e4e42aa4fded5d6153e8bac3f35987bbe5fa08865c45339214784a2"), api.OK)
	differ(t, drbg.New(""), drbg.New("\x00"), drbg.New("\x01"), drbg.New(strings.Repeat("\x00", 32)))
}

// The example: two of one seed go alike.
func TestExample(t *testing.T) {
	for _, seed := range []string{"", "seed", strings.Repeat("long", 100)} {
		one, two := drbg.New(seed), drbg.New(seed)
		if one == two {
			t.Fatal("one generator twice")
		}
		same(t, one, two)
	}
}
