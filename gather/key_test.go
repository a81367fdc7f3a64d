package gather_test

import (
	"math/big"
	"math/rand"
	"slices"
	"testing"

	"sandglass/api"
	"sandglass/feldman"
	"sandglass/gather"
	"sandglass/mult"
	"sandglass/shamir"
)

// orders are all orders of the list.
func orders[T any](l []T) [][]T {
	if len(l) == 0 {
		return [][]T{nil}
	}
	var all [][]T
	for i, first := range l {
		for _, rest := range orders(slices.Concat(l[:i], l[i+1:])) {
			all = append(all, append([]T{first}, rest...))
		}
	}
	return all
}

// sumOf is the sum of the dealers' first coefficients.
func sumOf(polys [][]api.Num) api.Num {
	sum := new(big.Int)
	for _, c := range polys {
		sum.Add(sum, toBig(c[0]))
	}
	return residue(sum)
}

// full is a gathering of these dealers, each of whom has put t + 1 shares.
func full(t *testing.T, polys [][]api.Num) pair {
	t.Helper()
	x := newPair(t, len(polys[0])-1, commits(polys...))
	for dealer, c := range polys {
		for place := range c {
			if s := shareAt(c, place+1); !x.g.Put(dealer, s) || !x.p.put(dealer, s) {
				t.Fatalf("dealer %d, %x at %d is refused", dealer, s.V, s.At)
			}
		}
	}
	x.check(t)
	return x
}

// 27.1: the document's example.
func TestExample(t *testing.T) {
	g := gather.New(1, commits(two()...))
	for i, x := range []struct {
		dealer, at int
		v          uint64
		have       [2]int
		err        api.Errno
	}{{0, 1, 8, [2]int{1, 0}, api.ErrShare}, {1, 2, 4, [2]int{1, 1}, api.ErrShare}, {0, 2, 11, [2]int{2, 1}, api.ErrShare}, {1, 5, 7, [2]int{2, 2}, api.OK}} {
		if !g.Put(x.dealer, api.Share{At: x.at, V: api.Num{x.v}}) {
			t.Errorf("share %d is refused", i)
		}
		checkHave(t, g, x.have[:]...)
		want := api.Num{}
		if x.err == api.OK {
			want = api.Num{7}
		}
		checkKey(t, g, want, x.err)
	}
}

// 27.1: ErrShare, and 0 beside it, while one dealer has less than t + 1, whichever it is and however few it has.
func TestKeyTooFew(t *testing.T) {
	r := rand.New(rand.NewSource(6))
	for faults := range 3 {
		for dealers := 1; dealers <= 3; dealers++ {
			var polys [][]api.Num
			for range dealers {
				polys = append(polys, short(r, faults+1))
			}
			for slow := range dealers {
				x := newPair(t, faults, commits(polys...))
				for dealer, c := range polys {
					if dealer != slow {
						x.puts(t, dealer, sharesAt(c, 1, 2, 3)[:faults+1], true)
					}
				}
				for place := range faults + 1 {
					checkKey(t, x.g, api.Num{}, api.ErrShare)
					x.put(t, slow, shareAt(polys[slow], 7+place), true)
				}
				checkKey(t, x.g, sumOf(polys), api.OK)
			}
		}
	}
}

// 27.1: in whatever order the shares of two dealers come, the key is the same.
func TestKeyOrders(t *testing.T) {
	t.Parallel()
	type put struct{ dealer, place int }
	for _, row := range orders([]put{{0, 1}, {0, 4}, {1, 4}, {1, 2}}) {
		x := newPair(t, 1, commits(two()...))
		for _, p := range row {
			checkKey(t, x.g, api.Num{}, api.ErrShare)
			x.put(t, p.dealer, shareAt(two()[p.dealer], p.place), true)
		}
		checkKey(t, x.g, api.Num{7}, api.OK)
	}
	polys := [][]api.Num{{{5}, {3}, {2}}, {near(-4), {1}, {1}}}
	for i, row := range orders([]put{{0, 1}, {0, 2}, {0, 6}, {1, 3}, {1, 1}, {1, last}}) {
		if i%17 == 0 {
			x := newPair(t, 2, commits(polys...))
			for _, p := range row {
				x.put(t, p.dealer, shareAt(polys[p.dealer], p.place), true)
			}
			checkKey(t, x.g, api.Num{1}, api.OK)
		}
	}
}

// 27.1: of whatever places the shares are, the key is the same, and it is the sum of chapter 13's Joins.
func TestKeyPlaces(t *testing.T) {
	t.Parallel()
	polys := [][]api.Num{{{40}, {9}, {7}}, {{2}, {}, {1}}}
	places := []int{1, 2, 7, 8, 1 << 20, last}
	for i, a := range orders(places) {
		if i%23 == 0 {
			x := newPair(t, 2, commits(polys...))
			sum := new(big.Int)
			for dealer, c := range polys {
				l := sharesAt(c, a[3*dealer:3*dealer+3]...)
				x.puts(t, dealer, l, true)
				joined, err := shamir.Join(l)
				if err != api.OK {
					t.Fatal(err)
				}
				sum.Add(sum, toBig(joined))
			}
			checkKey(t, x.g, api.Num{42}, api.OK)
			checkKey(t, x.g, residue(sum), api.OK)
		}
	}
}

// 27.1: Key tells the same twice, and behind Puts that are refused; and asking it ahead alters nothing.
func TestKeyTwice(t *testing.T) {
	x := newPair(t, 1, commits(two()...))
	for range 3 {
		checkKey(t, x.g, api.Num{}, api.ErrShare)
	}
	for dealer, c := range two() {
		for place := 3; place <= 4; place++ {
			x.put(t, dealer, shareAt(c, place), true)
			for range 2 {
				x.check(t)
			}
		}
	}
	for place := range 8 {
		checkKey(t, x.g, api.Num{7}, api.OK)
		x.put(t, 0, shareAt(two()[0], place), false)
		x.put(t, 1, api.Share{At: place, V: greatest}, false)
		x.put(t, 2, api.Share{At: place}, false)
		checkKey(t, x.g, api.Num{7}, api.OK)
	}
}

// edges are numbers less than q near the ends of words, of q and of half of it.
func edges() []api.Num {
	half := fromBig(new(big.Int).Rsh(q, 1))
	return []api.Num{{}, {1}, {top}, {0, 1}, {top, top}, {0, 0, 1}, {top, top, top}, {0, 0, 0, 1}, {0, 0, 0, 1 << 63}, half, plus(half, 1), {order[0], order[1], order[2], order[3] - 1}, {0, 0, 0, order[3]}, {top, order[1] - 1, order[2], order[3]}, near(-2), near(-1)}
}

// 27.1, 27.2: the sum of two dealers is taken modulo q, at q and above, and beyond 256 bits.
func TestKeySums(t *testing.T) {
	t.Parallel()
	beyond := map[bool]int{}
	for i, a := range edges() {
		for k, b := range edges() {
			if k < i {
				continue
			}
			polys := [][]api.Num{{a}, {b}}
			if i%2 == 0 {
				slices.Reverse(polys)
			}
			sum := new(big.Int).Add(toBig(a), toBig(b))
			beyond[sum.Cmp(q) >= 0]++
			checkKey(t, full(t, polys).g, residue(sum), api.OK)
		}
	}
	if beyond[true] < 30 || beyond[false] < 30 {
		t.Errorf("sums at q or above: %v", beyond)
	}
}

// 27.1: sums of several dealers: at q and above, more than once around.
func TestKeyManySums(t *testing.T) {
	for _, x := range []struct {
		secrets []api.Num
		want    api.Num
	}{
		{[]api.Num{near(-1), {1}}, api.Num{}},
		{[]api.Num{{1}, near(-1), {}}, api.Num{}},
		{[]api.Num{near(-1), near(-1)}, near(-2)},
		{[]api.Num{near(-1), near(-1), near(-1), near(-1), near(-1)}, near(-5)},
		{[]api.Num{near(-1), {2}, near(-1), {2}, near(-1), {2}}, api.Num{3}},
		{[]api.Num{near(-3), near(-2), {5}}, api.Num{}},
		{[]api.Num{{0, 0, 0, 1 << 63}, {0, 0, 0, 1 << 63}}, fromBig(new(big.Int).Sub(new(big.Int).Lsh(big.NewInt(1), 256), q))},
		{[]api.Num{{}, {}, {}}, api.Num{}},
		{[]api.Num{near(-1)}, near(-1)},
	} {
		var polys [][]api.Num
		for _, secret := range x.secrets {
			polys = append(polys, []api.Num{secret})
		}
		checkKey(t, full(t, polys).g, x.want, api.OK)
	}
	// A key of many small ones.
	polys := slices.Repeat([][]api.Num{{{3}}}, 300)
	checkKey(t, full(t, polys).g, api.Num{900}, api.OK)
}

// 27.1, 27.2: a key that comes out 0 is one all the same: its multiple of the base is None.
func TestKeyNought(t *testing.T) {
	for _, polys := range [][][]api.Num{{{{}}}, {{{}, {3}}}, {{{}, {}, {}}}, {{{5}, {3}}, {near(-5), {1}}}, {{{9}, {}}, {{}, {}}, {near(-9), {4}}}} {
		x := full(t, polys)
		checkKey(t, x.g, api.Num{}, api.OK)
		if got := feldman.Public(x.p.points); got != none {
			t.Errorf("Public is %v", got)
		}
	}
}

// 27.2: the key times the base is chapter 14's Public of the points, of drawn polynomials of one to several dealers.
func TestKeyPublic(t *testing.T) {
	t.Parallel()
	r := rand.New(rand.NewSource(8))
	for faults := range 3 {
		for dealers := 1; dealers <= 5; dealers++ {
			var polys [][]api.Num
			for range dealers {
				polys = append(polys, long(r, faults+1))
			}
			x := newPair(t, faults, commits(polys...))
			for dealer, c := range polys {
				for _, place := range r.Perm(7)[:faults+1] {
					x.put(t, dealer, shareAt(c, place+1), true)
				}
			}
			key, err := x.g.Key()
			if err != api.OK || key != sumOf(polys) {
				t.Errorf("t %d, %d dealers: %x, %d", faults, dealers, key, err)
			}
			if public := feldman.Public(x.p.points); mult.Base(key) != public || public != plainPublic(x.p.points) {
				t.Errorf("t %d, %d dealers: the key times the base is %v; Public is %v", faults, dealers, mult.Base(key), public)
			}
		}
	}
}
