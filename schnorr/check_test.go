package schnorr_test

import (
	"testing"

	"sandglass/api"
	"sandglass/schnorr"
)

// challenge asks for one, and holds it against the plain one.
func challenge(t *testing.T, r, p api.Point, more string) api.Num {
	t.Helper()
	got := schnorr.Challenge(r, p, more)
	if want := plainChallenge(r, p, more); got != want {
		t.Errorf("Challenge(%v, %v, %q): %x; want %x", r, p, more, got, want)
	}
	if toBig(got).Cmp(order) >= 0 {
		t.Errorf("Challenge(%v, %v, %q): %x is not less than q", r, p, more, got)
	}
	return got
}

// prove asks for a proof, and holds it against the plain one.
func prove(t *testing.T, k, r api.Num, more string) string {
	t.Helper()
	got, err := schnorr.Prove(k, r, more)
	if want, wantErr := plainProve(k, r, more); got != want || err != wantErr {
		t.Errorf("Prove(%x, %x, %q): %x, %d; want %x, %d", k, r, more, got, err, want, wantErr)
	}
	return got
}

// verify asks whether a proof is one, and holds the answer against the plain one, and against what it must be.
func verify(t *testing.T, what string, p api.Point, proof, more string, want bool) {
	t.Helper()
	if plain := plainVerify(p, proof, more); plain != want {
		t.Errorf("%s: the plain one answers %t of %v, %x, %q", what, plain, p, proof, more)
	}
	if got := schnorr.Verify(p, proof, more); got != want {
		t.Errorf("%s: Verify(%v, %x, %q): %t", what, p, proof, more, got)
	}
}

func taken(t *testing.T, what string, p api.Point, proof, more string) {
	t.Helper()
	verify(t, what, p, proof, more, true)
}

func refused(t *testing.T, what string, p api.Point, proof, more string) {
	t.Helper()
	verify(t, what, p, proof, more, false)
}

// made is the plain proof of k by r, which must be there.
func made(t *testing.T, k, r api.Num, more string) string {
	t.Helper()
	s, err := plainProve(k, r, more)
	if err != api.OK {
		t.Fatalf("no proof of %x by %x", k, r)
	}
	return s
}

// turned is s with the byte at i another one.
func turned(s string, i int, b byte) string { return s[:i] + string([]byte{b}) + s[i+1:] }
