package dleq_test

import (
	"slices"
	"strings"
	"testing"

	"sandglass/api"
	"sandglass/dleq"
)

// five are what a proof by 9 of 5 is of.
func five() []api.Point {
	return []api.Point{ofBase(7), ofBase(5), ofBase(35), ofBase(9), ofBase(63)}
}

// 32.1: of no points: the bytes of dleq and the text alone.
func TestChallengeOfNothing(t *testing.T) {
	t.Parallel()
	for _, more := range []string{"", "x", "dleq", allBytes(), noneBeyond, noneLow} {
		got := challenge(t, nil, more)
		if again := challenge(t, []api.Point{}, more); again != got {
			t.Errorf("%q: an empty list: %x; want %x", more, again, got)
		}
		for _, p := range wrong() {
			if again := challenge(t, []api.Point{p}, more); again != got {
				t.Errorf("%v, %q: %x; want %x", p, more, again, got)
			}
		}
	}
}

// 32.1: of one point and of each two, of the curve and none of it.
func TestChallenge(t *testing.T) {
	t.Parallel()
	l := append(points(), wrong()...)
	for _, p := range l {
		challenge(t, []api.Point{p}, "")
		challenge(t, []api.Point{p}, "a text")
		for _, o := range l {
			challenge(t, []api.Point{p, o}, "x")
		}
	}
	challenge(t, five(), "")
	challenge(t, l, "x")
}

// 32.1: of many points, and of each length up to some.
func TestChallengeOfMany(t *testing.T) {
	t.Parallel()
	l := slices.Repeat(append(points(), wrong()...), 200)
	for n := range 70 {
		challenge(t, l[:n], "x")
		challenge(t, l[n:2*n], "x")
	}
	for _, n := range []int{255, 256, 257, 1000, 4096, len(l)} {
		challenge(t, l[:n], "x")
	}
}

// 32.1: texts of each length up to some blocks, and of many bytes.
func TestChallengeOfTexts(t *testing.T) {
	t.Parallel()
	long := strings.Repeat("sandglass", 12000)
	lengths := []int{1000, 4095, 4096, 65535, 65536, len(long)}
	for n := range 200 {
		lengths = append(lengths, n)
	}
	for _, n := range lengths {
		challenge(t, nil, long[:n])
		challenge(t, []api.Point{base}, long[:n])
		challenge(t, five(), long[:n])
		challenge(t, []api.Point{none, base, none}, long[:n])
	}
}

// 32.1: all bytes of a text count, whatever they are.
func TestChallengeOfBytes(t *testing.T) {
	t.Parallel()
	seen := map[api.Num]string{}
	all := allBytes()
	for i := range all {
		for _, more := range []string{all[i : i+1], all[:i], all[i:], all[i:i+1] + "\x00"} {
			c := challenge(t, five()[:2], more)
			if other, is := seen[c]; is && other != more {
				t.Errorf("%q and %q have one challenge", other, more)
			}
			seen[c] = more
		}
	}
}

// 32.1: the points' order counts, how many they are, and which of two opposite ones each is.
func TestChallengeOfOthers(t *testing.T) {
	t.Parallel()
	seen := map[api.Num][]api.Point{}
	tell := func(l ...api.Point) {
		c := challenge(t, l, "x")
		if other, is := seen[c]; is {
			t.Errorf("%v and %v have one challenge", other, l)
		}
		seen[c] = slices.Clone(l)
	}
	l := five()
	tell()
	for i, p := range l {
		tell(p)
		tell(slices.Repeat(l[i:i+1], 2)...)
		tell(slices.Delete(slices.Clone(l), i, i+1)...)
		for j := range i {
			other := slices.Clone(l)
			other[i], other[j] = other[j], other[i]
			tell(other...)
		}
		other := slices.Clone(l)
		other[i] = opposite(p)
		tell(other...)
		tell(other[i])
	}
	tell(l...)
	slices.Reverse(l)
	tell(l...)
}

// 32.1: of a point that has no Encode nothing is in the sum, wherever it stands, whatever else is in it.
func TestChallengeOfNoPoint(t *testing.T) {
	t.Parallel()
	l := five()
	want := challenge(t, l, "x")
	for _, w := range wrong() {
		for i := range len(l) + 1 {
			if got := challenge(t, slices.Insert(slices.Clone(l), i, w), "x"); got != want {
				t.Errorf("%v in place %d: %x; want %x", w, i, got, want)
			}
		}
		for i := range l {
			with := slices.Clone(l)
			with[i] = w
			if got, less := challenge(t, with, "x"), challenge(t, slices.Delete(slices.Clone(l), i, i+1), "x"); got != less {
				t.Errorf("%v as place %d: %x; want %x", w, i, got, less)
			}
		}
	}
	if got := challenge(t, append(wrong(), append(l, wrong()...)...), "x"); got != want {
		t.Errorf("%x; want %x", got, want)
	}
}

// 32.1: the bytes of the points, and the text, stand one behind the other.
func TestChallengeOfBytesInARow(t *testing.T) {
	t.Parallel()
	l := points()
	want := dleq.Challenge(l, "a text")
	text := "a text"
	for i := len(l) - 1; i >= 0; i-- {
		text = encoded(l[i]) + text
		if got := challenge(t, l[:i], text); got != want {
			t.Errorf("%d points: %x; want %x", i, got, want)
		}
	}
}

// 32.1: sums that are a number beyond q are told modulo q, as those next to 0 are.
func TestChallengeModuloOrder(t *testing.T) {
	for _, x := range knownChallenges() {
		if got := challenge(t, x.l, x.more); got != x.want {
			t.Errorf("Challenge(%v, %q): %x; want %x", x.l, x.more, got, x.want)
		}
	}
}
