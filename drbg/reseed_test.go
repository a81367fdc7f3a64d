package drbg_test

import (
	"strings"
	"testing"

	"sandglass/drbg"
)

// 29.1: reseeding by texts of all lengths, at once, behind Bytes, and twice.
func TestReseed(t *testing.T) {
	t.Parallel()
	for i, s := range seeds() {
		for _, seed := range []string{"", "seed", s} {
			x := newPair(t, seed)
			x.reseed(s)
			checkAsked(t, x.d, 0)
			x.bytes(t, 64)
			x.reseed(s)
			x.bytes(t, 1+i%70)
			x.reseed(s, s)
			x.bytes(t, 32)
			x.reseed(s, "", "other", s)
			x.bytes(t, 33)
			if t.Failed() {
				t.Fatalf("seed %s, %d bytes: %s", digits(seed), len(s), digits(s))
			}
		}
	}
}

// 29.1: to reseed by nothing is one half of an update alone; it is not nothing, and not the text of one byte 0.
func TestReseedByNothing(t *testing.T) {
	for _, seed := range []string{"", "seed", "\x00"} {
		x := newPair(t, seed)
		x.reseed("")
		x.bytes(t, 40)
		x.reseed("", "")
		x.bytes(t, 40)
		x.reseed("")
		x.scalars(t, 1)
		var l []*drbg.Drbg
		for _, row := range [][]string{{}, {""}, {"", ""}, {"\x00"}, {"\x01"}, {"", "\x00"}, {"\x00", ""}} {
			d := drbg.New(seed)
			for _, s := range row {
				d.Reseed(s)
			}
			l = append(l, d)
		}
		differ(t, l...)
	}
}

// 29.1: texts that are handed in one behind the other are not one text, nor are they the seed's end; and their order counts.
func TestReseedInParts(t *testing.T) {
	behind := func(seed string, l ...string) *drbg.Drbg {
		d := drbg.New(seed)
		for _, s := range l {
			d.Reseed(s)
		}
		return d
	}
	differ(t, behind("ab"), behind("a", "b"), behind("", "ab"), behind("", "a", "b"), behind("", "b", "a"), behind("b", "a"),
		behind("a", "b", "b"), behind("a", "bb"), behind("a", "b\x00"), behind("a", "\x00b"), behind("a", "c"), behind("a"), behind("b"), behind(""))
	newPairBehind := func(seed string, l ...string) {
		t.Helper()
		x := newPair(t, seed)
		x.reseed(l...)
		x.bytes(t, 32, 31)
	}
	newPairBehind("a", "b")
	newPairBehind("", "a", "b")
	newPairBehind("", "b", "a")
	newPairBehind("a", strings.Repeat("b", 64), strings.Repeat("\x00", 65))
}

// 29.1: what is told ahead of a Reseed hangs on it not, what is told behind it does.
func TestReseedBehind(t *testing.T) {
	one, two := drbg.New("seed"), drbg.New("seed")
	want, err := two.Bytes(50)
	checkBytes(t, one, 50, want, err)
	one.Reseed("one")
	two.Reseed("two")
	differ(t, one, two)
	// They stay apart, also when both take the same then.
	one.Reseed("same")
	two.Reseed("same")
	differ(t, one, two, drbg.New("same"))
}
