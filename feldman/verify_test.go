package feldman_test

import (
	"math"
	"math/big"
	"slices"
	"testing"

	"sandglass/api"
	"sandglass/feldman"
	"sandglass/shamir"
)

func checkVerify(t *testing.T, c []api.Point, s api.Share, want bool) {
	t.Helper()
	if got := feldman.Verify(c, s); got != want {
		t.Errorf("Verify of %v and %v at %d: %t", c, s.V, s.At, got)
	}
}

// dealt are polynomials with a coefficient, as dealers have them.
func dealt() [][]api.Num {
	return [][]api.Num{{{5}}, {{}}, {order}, {greatest}, {{5}, {3}}, {{}, {}}, {near(-1), {1}}, edges(), mixed(1, 20), mixed(2, 21), mixed(3, 22), mixed(7, 23)}
}

// others are values that are less than q, and not v.
func others(v api.Num) []api.Num {
	double := residue(new(big.Int).Lsh(toBig(v), 1))
	minus := residue(new(big.Int).Neg(toBig(v)))
	low, high := v, v
	low[1] ^= 1
	high[3] ^= 1 << 20
	l := []api.Num{plus(v, 1), plus(v, -1), double, minus, {}, {1}, near(-1), residue(toBig(low)), residue(toBig(high))}
	return slices.DeleteFunc(l, func(other api.Num) bool { return other == v })
}

// 14.1: true of each share, at the last place too.
func TestVerify(t *testing.T) {
	t.Parallel()
	for _, c := range dealt() {
		points := plainCommit(c)
		for _, place := range []int{1, 2, 3, 7, 8, math.MaxInt32, last} {
			checkVerify(t, points, shareAt(c, place), true)
		}
	}
}

// 14.1: false of another value there.
func TestVerifyOthers(t *testing.T) {
	t.Parallel()
	for _, c := range dealt() {
		points := plainCommit(c)
		for _, place := range []int{1, last} {
			for _, v := range others(plainValue(c, place)) {
				checkVerify(t, points, api.Share{At: place, V: v}, false)
			}
		}
	}
}

// 14.1: of all small values at the first places the right ones alone.
func TestVerifySmall(t *testing.T) {
	t.Parallel()
	points := plainCommit([]api.Num{{5}, {3}})
	for place := 1; place <= 8; place++ {
		for v := range 33 {
			checkVerify(t, points, api.Share{At: place, V: api.Num{uint64(v)}}, v == 5+3*place)
		}
	}
}

// 14.1: false of a value with one bit altered, whichever.
func TestVerifyBits(t *testing.T) {
	t.Parallel()
	c := mixed(2, 24)
	points, s := plainCommit(c), shareAt(c, 1)
	for bit := range 256 {
		altered := s
		altered.V[bit/64] ^= 1 << (bit % 64)
		checkVerify(t, points, altered, false)
	}
}

// 14.1: false of the value of a share at a place that it does not stand at.
func TestVerifyElsewhere(t *testing.T) {
	t.Parallel()
	c := mixed(3, 25)
	points := plainCommit(c)
	for _, from := range []int{1, 2, last} {
		for _, to := range []int{1, 2, 3, last - 1, last} {
			checkVerify(t, points, api.Share{At: to, V: plainValue(c, from)}, from == to)
		}
	}
}

// 14.1: false of a place that may not be, though the value there is the polynomial's.
func TestVerifyPlaces(t *testing.T) {
	t.Parallel()
	for _, c := range dealt() {
		points := plainCommit(c)
		for _, place := range append(below(), 0) {
			checkVerify(t, points, api.Share{At: place, V: plainValue(c, 0)}, false)
		}
		for _, place := range []int{last + 1, last + 2, math.MaxUint32, 1 << 32, 1<<32 + 1, math.MaxInt - 1, math.MaxInt} {
			checkVerify(t, points, shareAt(c, place), false)
			// The place's lower half may be one that fits.
			checkVerify(t, points, api.Share{At: place, V: plainValue(c, int(uint32(place)))}, false)
		}
	}
}

// 14.1: false of a value of q or more, though its multiple is the right one.
func TestVerifyGreatValues(t *testing.T) {
	t.Parallel()
	for v := range uint64(4) {
		for _, c := range [][]api.Num{{{v}}, {{}, {v}}, {near(-1), {1}, {v}}} {
			points := plainCommit(c)
			s := shareAt(c, 1)
			checkVerify(t, points, s, true)
			s.V = near(int64(s.V[0]))
			checkVerify(t, points, s, false)
		}
	}
	for _, v := range []api.Num{order, near(1), {top - 1, top, top, top}, greatest} {
		for _, place := range []int{1, 7, last} {
			points := plainCommit([]api.Num{v})
			checkVerify(t, points, api.Share{At: place, V: v}, false)
			checkVerify(t, points, api.Share{At: place, V: residue(toBig(v))}, true)
		}
	}
	checkVerify(t, []api.Point{opposite(base)}, api.Share{At: 3, V: near(-1)}, true)
}

// 14.1: false of no point, whatever the share.
func TestVerifyNothing(t *testing.T) {
	for _, c := range [][]api.Point{nil, {}, {base, far}} {
		for _, place := range append(below(), append(places(), last+1)...) {
			for _, v := range edges() {
				checkVerify(t, c[:0], api.Share{At: place, V: v}, false)
			}
		}
	}
}

// 14.1: None is a point, and a point that is none counts as it: its share is 0.
func TestVerifyNone(t *testing.T) {
	t.Parallel()
	for _, p := range append(wrong(), none) {
		for _, c := range [][]api.Point{{p}, {p, p, p}, {base, p, opposite(base)}} {
			checkVerify(t, c, api.Share{At: 1}, true)
			checkVerify(t, c, api.Share{At: 1, V: api.Num{1}}, false)
			checkVerify(t, c, api.Share{At: 1, V: order}, false)
		}
		checkVerify(t, []api.Point{p, base}, api.Share{At: 9, V: api.Num{9}}, true)
		checkVerify(t, []api.Point{base, p}, api.Share{At: 9, V: api.Num{1}}, true)
		checkVerify(t, []api.Point{base, p}, api.Share{At: 9, V: api.Num{10}}, false)
	}
}

// 14.1: a share of another polynomial fits only where the two meet.
func TestVerifyAnother(t *testing.T) {
	t.Parallel()
	one, other := []api.Num{{5}, {3}}, []api.Num{{3}, {4}}
	points := plainCommit(one)
	for place := 1; place <= 7; place++ {
		checkVerify(t, points, shareAt(other, place), place == 2)
		checkVerify(t, points[:1], shareAt(one, place), false)
		checkVerify(t, append(points[:2:2], base), shareAt(one, place), false)
		checkVerify(t, append(points[:2:2], none), shareAt(one, place), true)
		checkVerify(t, []api.Point{points[1], points[0]}, shareAt(one, place), place == 1)
	}
	for i, c := range dealt() {
		points := plainCommit(c)
		checkVerify(t, points, shareAt(mixed(len(c), uint64(30+i)), 3), false)
	}
}

// sameY are the other points of the curve with the Y of p, which is not None.
func sameY(p api.Point) []api.Point {
	// Of the three X that a Y may have the other two are the roots of x^2 + X x + X^2 - 3.
	x := toBig(p.X)
	root := new(big.Int).Mul(x, x)
	modulo(root.Sub(big.NewInt(12), root.Mul(root, big.NewInt(3))))
	if root.ModSqrt(root, prime) == nil {
		return nil
	}
	half := new(big.Int).ModInverse(big.NewInt(2), prime)
	one, other := new(big.Int).Sub(root, x), new(big.Int).Neg(new(big.Int).Add(root, x))
	return []api.Point{
		{X: fromBig(modulo(one.Mul(one, half))), Y: p.Y},
		{X: fromBig(modulo(other.Mul(other, half))), Y: p.Y},
	}
}

// 14.1: false, if the multiple has one of the right point's two numbers alone.
func TestVerifyHalves(t *testing.T) {
	t.Parallel()
	tried := 0
	for k := range uint64(20) {
		p := plainMul(new(big.Int).SetUint64(k+1), base)
		s := api.Share{At: 3, V: api.Num{k + 1}}
		checkVerify(t, []api.Point{p}, s, true)
		checkVerify(t, []api.Point{opposite(p)}, s, false)
		for _, other := range sameY(p) {
			if counted(other) != other || other == p {
				t.Fatalf("%v is no other point", other)
			}
			checkVerify(t, []api.Point{other}, s, false)
			tried++
		}
	}
	if tried == 0 {
		t.Error("no two points with one Y were tried")
	}
}

// 14.1: shares and commitments that another program made of the document's words.
func TestVerifyValues(t *testing.T) {
	t.Parallel()
	points := feldman.Commit([]api.Num{near(-1), greatest, {77}, near(1)})
	one := num("00000004fffffffb00000000000000014f7d1a9bbc89e7673d5f0a3112104d67")
	two := num("7fffffff8000000000000000218c82a92c7430bda6231ab1c1ce6d56ffffffff")
	checkVerify(t, points, api.Share{At: 5, V: one}, true)
	checkVerify(t, points, api.Share{At: last, V: two}, true)
	checkVerify(t, points, api.Share{At: last, V: one}, false)
	checkVerify(t, points, api.Share{At: 5, V: two}, false)
}

// T5: shares that are verified join to the number whose multiple of the base is the key, and wrong ones are not verified.
func TestVerifiedSharesJoin(t *testing.T) {
	t.Parallel()
	for _, c := range dealt() {
		points := feldman.Commit(c)
		var right []api.Share
		for _, s := range shamir.Shares(c, api.MaxNodes) {
			altered := api.Share{At: s.At, V: plus(s.V, int64(s.At))}
			for _, x := range []api.Share{altered, s} {
				if feldman.Verify(points, x) {
					right = append(right, x)
				}
			}
		}
		if len(right) != api.MaxNodes {
			t.Fatalf("%d shares are verified", len(right))
		}
		k, err := shamir.Join(right[api.MaxNodes-len(c):])
		if err != api.OK {
			t.Fatal(err)
		}
		checkPoint(t, "the key", feldman.Public([][]api.Point{points}), plainMul(toBig(k), base))
	}
}

// The chapter's example.
func TestExample(t *testing.T) {
	checkVerify(t, feldman.Commit([]api.Num{{5}, {3}}), api.Share{At: 1, V: api.Num{8}}, true)
}
