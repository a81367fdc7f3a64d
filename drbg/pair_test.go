package drbg_test

import (
	"slices"
	"testing"

	"sandglass/api"
	"sandglass/drbg"
)

func checkBytes(t *testing.T, d *drbg.Drbg, n int, want string, wantErr api.Errno) {
	t.Helper()
	if s, err := d.Bytes(n); s != want || err != wantErr {
		t.Errorf("Bytes of %d: %d of them, %s, %d; want %d, %s, %d", n, len(s), digits(s), err, len(want), digits(want), wantErr)
	}
}

func checkScalar(t *testing.T, d *drbg.Drbg, want api.Num) {
	t.Helper()
	if n := d.Scalar(); n != want {
		t.Errorf("Scalar is %x; want %x", n, want)
	}
}

func checkPoly(t *testing.T, d *drbg.Drbg, n int, want []api.Num) {
	t.Helper()
	if l := d.Poly(n); !slices.Equal(l, want) {
		t.Errorf("Poly of %d is %x; want %x", n, l, want)
	}
}

func checkAsked(t *testing.T, d *drbg.Drbg, want int) {
	t.Helper()
	if n := d.Asked(); n != want {
		t.Errorf("Asked is %d; want %d", n, want)
	}
}

// pair is a generator, and the plain one to which the same was done.
type pair struct {
	d *drbg.Drbg
	p *plainDrbg
}

func newPair(t *testing.T, seed string) pair {
	t.Helper()
	d := drbg.New(seed)
	if d == nil {
		t.Fatalf("seed %s: no generator", digits(seed))
	}
	return pair{d, newPlain(seed)}
}

// reseed reseeds both by each of these.
func (x pair) reseed(l ...string) {
	for _, s := range l {
		x.d.Reseed(s)
		x.p.update(s)
	}
}

// bytes holds that both tell the same of each of these lengths, and that they have told as many bytes.
func (x pair) bytes(t *testing.T, l ...int) {
	t.Helper()
	for _, n := range l {
		want, err := x.p.bytes(n)
		checkBytes(t, x.d, n, want, err)
		checkAsked(t, x.d, x.p.told)
	}
}

// scalars holds that both tell the same n Scalars.
func (x pair) scalars(t *testing.T, n int) {
	t.Helper()
	for range n {
		checkScalar(t, x.d, x.p.scalar())
		checkAsked(t, x.d, x.p.told)
	}
}

// polys holds that both tell the same Poly of each of these.
func (x pair) polys(t *testing.T, l ...int) {
	t.Helper()
	for _, n := range l {
		checkPoly(t, x.d, n, x.p.poly(n))
		checkAsked(t, x.d, x.p.told)
	}
}

// same holds that two generators go on alike, by all calls.
func same(t *testing.T, a, b *drbg.Drbg) {
	t.Helper()
	for _, n := range []int{40, 0, 33} {
		want, err := a.Bytes(n)
		checkBytes(t, b, n, want, err)
	}
	checkScalar(t, b, a.Scalar())
	checkPoly(t, b, 2, a.Poly(2))
	a.Reseed("again")
	b.Reseed("again")
	want, err := a.Bytes(32)
	checkBytes(t, b, 32, want, err)
}

// differ holds that no two of these generators tell the same.
func differ(t *testing.T, l ...*drbg.Drbg) {
	t.Helper()
	seen := map[string]int{}
	for i, d := range l {
		s, err := d.Bytes(32)
		if k, is := seen[s]; is || err != api.OK {
			t.Errorf("the generators %d and %d tell the same: %s, %d", k, i, digits(s), err)
		}
		seen[s] = i
	}
}
