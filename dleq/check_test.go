package dleq_test

import (
	"testing"

	"sandglass/api"
	"sandglass/dleq"
)

// challenge asks for one, and holds it against the plain one.
func challenge(t *testing.T, l []api.Point, more string) api.Num {
	t.Helper()
	got := dleq.Challenge(l, more)
	if want := plainChallenge(l, more); got != want {
		t.Errorf("Challenge(%v, %q): %x; want %x", l, more, got, want)
	}
	if toBig(got).Cmp(order) >= 0 {
		t.Errorf("Challenge(%v, %q): %x is not less than q", l, more, got)
	}
	return got
}

// prove asks for a proof, and holds it against the plain one.
func prove(t *testing.T, h api.Point, k, r api.Num, more string) string {
	t.Helper()
	got, err := dleq.Prove(h, k, r, more)
	if want, wantErr := plainProve(h, k, r, more); got != want || err != wantErr {
		t.Errorf("Prove(%v, %x, %x, %q): %x, %d; want %x, %d", h, k, r, more, got, err, want, wantErr)
	}
	return got
}

// verify asks whether a proof is one, and holds the answer against the plain one, and against what it must be.
func verify(t *testing.T, what string, s said, proof, more string, want bool) {
	t.Helper()
	if plain := plainVerify(s, proof, more); plain != want {
		t.Errorf("%s: the plain one answers %t of %v, %x, %q", what, plain, s, proof, more)
	}
	if got := dleq.Verify(s.h, s.a, s.b, proof, more); got != want {
		t.Errorf("%s: Verify(%v, %x, %q): %t", what, s, proof, more, got)
	}
}

func taken(t *testing.T, what string, s said, proof, more string) {
	t.Helper()
	verify(t, what, s, proof, more, true)
}

func refused(t *testing.T, what string, s said, proof, more string) {
	t.Helper()
	verify(t, what, s, proof, more, false)
}

// fails asks for a proof that there is none of.
func fails(t *testing.T, h api.Point, k, r api.Num, want api.Errno) {
	t.Helper()
	for _, more := range []string{"", "x"} {
		if s, err := dleq.Prove(h, k, r, more); s != "" || err != want {
			t.Errorf("Prove(%v, %x, %x, %q): %x, %d; want %d", h, k, r, more, s, err, want)
		}
		prove(t, h, k, r, more)
	}
}

// made is the plain proof of k on h by r, which must be there.
func made(t *testing.T, h api.Point, k, r api.Num, more string) string {
	t.Helper()
	s, err := plainProve(h, k, r, more)
	if err != api.OK {
		t.Fatalf("no proof of %x on %v by %x", k, h, r)
	}
	return s
}

// turned is s with the byte at i another one.
func turned(s string, i int, b byte) string { return s[:i] + string([]byte{b}) + s[i+1:] }
