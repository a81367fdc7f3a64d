package drbg_test

import (
	"sync"
	"testing"
	"unsafe"

	"sandglass/drbg"
)

// R4: what is handed in is not changed, and not kept: that its bytes are others behind the call changes nothing.
func TestHandedInIsNotKept(t *testing.T) {
	for _, n := range []int{1, 31, 32, 33, 63, 64, 65, 500} {
		for _, want := range texts(n)[2:5] {
			b := []byte(want)
			s := unsafe.String(&b[0], len(b))
			alter := func() {
				t.Helper()
				if string(b) != want {
					t.Errorf("%d bytes: what was handed in is changed", n)
				}
				for i := range b {
					b[i] ^= 0x55
				}
			}
			restore := func() { copy(b, want) }
			x := pair{drbg.New(s), newPlain(want)}
			alter()
			x.bytes(t, 64, 1)
			restore()
			x.d.Reseed(s)
			x.p.update(want)
			alter()
			x.scalars(t, 1)
			x.bytes(t, 40)
			restore()
			x.bytes(t, 40)
		}
	}
}

// R5: one generator knows nothing of another one's: each goes as it would alone, whatever lies between its calls.
func TestSideBySide(t *testing.T) {
	one, two, other, empty := newPair(t, "seed"), newPair(t, "seed"), newPair(t, "other"), newPair(t, "")
	for n := range 70 {
		one.bytes(t, n)
		other.bytes(t, 70-n)
		two.bytes(t, n)
		other.reseed("more")
		empty.scalars(t, 1)
		one.scalars(t, 1)
		newPair(t, "seed").bytes(t, 3)
		two.scalars(t, 1)
	}
	one.reseed("one")
	two.bytes(t, 32)
	empty.bytes(t, 32)
	one.bytes(t, 32)
	differ(t, one.d, two.d, other.d, empty.d)
}

// The state is copied: a copy of a generator goes on from there alone, and so does what it was copied from.
func TestCopied(t *testing.T) {
	x := newPair(t, "seed")
	x.bytes(t, 40)
	copied := *x.d
	twin := drbg.New("seed")
	twin.Bytes(40)
	x.reseed("other")
	x.bytes(t, 32)
	x.scalars(t, 2)
	checkAsked(t, &copied, 40)
	same(t, twin, &copied)
	x.bytes(t, 32)
}

// R5: generators that are asked at the same time, each by itself, tell what they tell alone.
func TestAtOnce(t *testing.T) {
	t.Parallel()
	var all sync.WaitGroup
	for range 8 {
		all.Go(func() {
			for _, seed := range []string{"", "seed"} {
				x := newPair(t, seed)
				x.bytes(t, 100, 1000)
				x.reseed("more")
				x.scalars(t, 3)
				x.polys(t, 8)
			}
		})
	}
	all.Wait()
}
