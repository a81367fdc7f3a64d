package drbg_test

import (
	"slices"
	"testing"

	"sandglass/api"
	"sandglass/drbg"
)

// polyLengths are such ints as a Poly may be asked for, and how many Scalars it has then.
func polyLengths() map[int]int {
	l := map[int]int{-9: 0, -8: 0, -2: 0, -1: 0, 9: 8, 10: 8, 16: 8, 20: 8, 64: 8, 255: 8, 256: 8, 257: 8, 4096: 8, 4097: 8}
	for n := range 9 {
		l[n] = n
	}
	for _, n := range farInts() {
		l[n] = 0
		if n > 0 {
			l[n] = 8
		}
	}
	return l
}

// 29.2: as many Scalars as are asked for, 0 to 8, beyond as these: each is what Scalar would have answered in its place.
func TestPoly(t *testing.T) {
	t.Parallel()
	for n, count := range polyLengths() {
		one, two := drbg.New("seed"), drbg.New("seed")
		var want []api.Num
		for range count {
			want = append(want, two.Scalar())
		}
		checkPoly(t, one, n, want)
		checkAsked(t, one, 32*count)
		same(t, two, one)
		x := newPair(t, "seed")
		x.bytes(t, 5)
		x.polys(t, n, 1, n)
		x.scalars(t, 1)
		x.reseed("more")
		x.polys(t, n)
		x.bytes(t, 32)
		if t.Failed() {
			t.Fatalf("%d", n)
		}
	}
}

// 29.2: a Poly of none does nothing: what follows is as if it had not been asked.
func TestPolyOfNone(t *testing.T) {
	for _, n := range []int{0, -1} {
		d := drbg.New("seed")
		for range 3 {
			checkPoly(t, d, n, nil)
		}
		same(t, drbg.New("seed"), d)
	}
}

// 29.2: the numbers of a Poly differ.
func TestPolyDiffers(t *testing.T) {
	seen := map[api.Num]bool{}
	d := drbg.New("seed")
	for range 5 {
		for _, n := range d.Poly(8) {
			seen[n] = true
		}
	}
	if len(seen) != 40 {
		t.Errorf("%d of 40 differ", len(seen))
	}
}

// R4: a list that is altered behind a call, with what lies behind its end, changes nothing: neither another answer nor what follows.
func TestPolyIsNew(t *testing.T) {
	x := newPair(t, "seed")
	var l, want [][]api.Num
	for _, n := range []int{8, 3, 0, 1, 8, -1, 9} {
		l = append(l, x.d.Poly(n))
		want = append(want, x.p.poly(n))
	}
	for i := range l {
		if !slices.Equal(l[i], want[i]) {
			t.Errorf("the list %d is %x; want %x", i, l[i], want[i])
		}
		whole := l[i][:cap(l[i])]
		for k := range whole {
			whole[k] = api.Num{7, 7, 7, 7}
		}
		x.polys(t, 8)
	}
	x.bytes(t, 40)
	newPair(t, "seed").polys(t, 8)
}
