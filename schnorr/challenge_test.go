package schnorr_test

import (
	"strings"
	"testing"

	"sandglass/api"
	"sandglass/schnorr"
)

// 31.1: of each two points, of the curve and none of it.
func TestChallenge(t *testing.T) {
	t.Parallel()
	l := append(points(), wrong()...)
	for _, r := range l {
		for _, p := range l {
			challenge(t, r, p, "")
			challenge(t, r, p, "a text")
		}
	}
}

// 31.1: texts of each length up to some blocks, and of many bytes.
func TestChallengeOfTexts(t *testing.T) {
	t.Parallel()
	long := strings.Repeat("sandglass", 12000)
	lengths := []int{1000, 4095, 4096, 65535, 65536, len(long)}
	for n := range 200 {
		lengths = append(lengths, n)
	}
	for _, n := range lengths {
		challenge(t, base, ofBase(7), long[:n])
		challenge(t, none, ofBase(7), long[:n])
		challenge(t, none, none, long[:n])
	}
}

// 31.1: all bytes of a text count, whatever they are.
func TestChallengeOfBytes(t *testing.T) {
	t.Parallel()
	seen := map[api.Num]string{}
	all := allBytes()
	for i := range all {
		for _, more := range []string{all[i : i+1], all[:i], all[i:], all[i:i+1] + "\x00"} {
			c := challenge(t, base, ofBase(-7), more)
			if other, is := seen[c]; is && other != more {
				t.Errorf("%q and %q have one challenge", other, more)
			}
			seen[c] = more
		}
	}
}

// 31.1: R and P are not taken for each other, nor a point for its opposite.
func TestChallengeOfOthers(t *testing.T) {
	t.Parallel()
	seen := map[api.Num]bool{}
	l := points()
	count := 0
	for _, r := range l {
		for _, p := range l {
			seen[challenge(t, r, p, "x")] = true
			count++
		}
	}
	if len(seen) != count {
		t.Errorf("%d challenges of %d pairs", len(seen), count)
	}
	two := ofBase(2)
	if schnorr.Challenge(base, two, "") == schnorr.Challenge(two, base, "") {
		t.Error("R and P are taken for each other")
	}
	if schnorr.Challenge(base, two, "") == schnorr.Challenge(base, opposite(two), "") {
		t.Error("P is taken for its opposite")
	}
}

// 31.1: of a point that has no Encode nothing is in the sum, whatever else is in it.
func TestChallengeOfNoPoint(t *testing.T) {
	t.Parallel()
	two := ofBase(2)
	alone, empty := schnorr.Challenge(two, none, "x"), schnorr.Challenge(none, none, "x")
	for _, w := range wrong() {
		for what, got := range map[string]api.Num{"P": challenge(t, two, w, "x"), "R": challenge(t, w, two, "x")} {
			if got != alone {
				t.Errorf("%v as %s: %x; want %x", w, what, got, alone)
			}
		}
		for _, v := range wrong() {
			if got := challenge(t, w, v, "x"); got != empty {
				t.Errorf("%v and %v: %x; want %x", w, v, got, empty)
			}
		}
	}
	// The bytes of both points, and the text, stand one behind the other.
	if got := schnorr.Challenge(none, none, encoded(base)+encoded(two)+"x"); got != schnorr.Challenge(base, two, "x") {
		t.Errorf("%x", got)
	}
}

// 31.1: sums that are a number beyond q are told modulo q, as those next to 0 are.
func TestChallengeModuloOrder(t *testing.T) {
	for _, x := range knownChallenges() {
		if got := challenge(t, x.r, x.p, x.more); got != x.want {
			t.Errorf("Challenge(%v, %v, %q): %x; want %x", x.r, x.p, x.more, got, x.want)
		}
	}
}
