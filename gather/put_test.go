package gather_test

import (
	"math"
	"math/big"
	"math/rand"
	"slices"
	"testing"

	"sandglass/api"
)

// two are the polynomials of two dealers with t 1: 5 + 3x, and 2 + x.
func two() [][]api.Num { return [][]api.Num{{{5}, {3}}, {{2}, {1}}} }

// dealt are polynomials as dealers have them, with one, two and three coefficients, at the edges and without a pattern.
func dealt() [][]api.Num {
	r := rand.New(rand.NewSource(27))
	return [][]api.Num{
		{{5}}, {{}}, {near(-1)}, long(r, 1),
		{{5}, {3}}, {{}, {}}, {{}, {1}}, {{7}, {}}, {near(-1), {1}}, long(r, 2),
		{{5}, {3}, {2}}, {{}, {}, {1}}, {{}, {}, {}}, {near(-1), near(-1), near(-2)}, long(r, 3),
	}
}

// 27.1: dealers stand from place 0 on; a place that is none keeps nothing.
func TestPutDealer(t *testing.T) {
	r := rand.New(rand.NewSource(2))
	for dealers := 1; dealers <= 4; dealers++ {
		var polys [][]api.Num
		for range dealers {
			polys = append(polys, short(r, 2))
		}
		x := newPair(t, 1, commits(polys...))
		for _, dealer := range append([]int{-dealers, -2, -1, dealers, dealers + 1, 2 * dealers}, farInts()...) {
			if dealer < 0 || dealer >= dealers {
				for _, c := range polys {
					x.put(t, dealer, shareAt(c, 1), false)
				}
			}
		}
		for dealer, c := range polys {
			x.put(t, dealer, shareAt(c, 1), true)
			x.put(t, -1-dealer, shareAt(c, 2), false)
			x.put(t, dealers+dealer, shareAt(c, 2), false)
		}
		checkHave(t, x.g, slices.Repeat([]int{1}, dealers)...)
	}
}

// 27.1: what the dealer's own points do not verify, another one's do not help.
func TestPutOtherDealer(t *testing.T) {
	x := newPair(t, 1, commits(two()...))
	for dealer, c := range two() {
		other := two()[1-dealer]
		for place := 1; place <= 8; place++ {
			x.put(t, dealer, shareAt(other, place), false)
		}
		x.put(t, dealer, shareAt(c, 3), true)
		x.put(t, dealer, shareAt(other, 4), false)
	}
	// Where the two polynomials meet, a share is both dealers': of 5 + 3x and 9 + x at 2.
	x = newPair(t, 1, commits([]api.Num{{5}, {3}}, []api.Num{{9}, {1}}))
	x.put(t, 0, api.Share{At: 2, V: api.Num{11}}, true)
	x.put(t, 1, api.Share{At: 2, V: api.Num{11}}, true)
	x.put(t, 1, api.Share{At: 3, V: api.Num{14}}, false)
}

// 27.1: each right share is taken, at any places that may be, up to t + 1 of them.
func TestPutRight(t *testing.T) {
	t.Parallel()
	for _, c := range dealt() {
		for _, places := range [][]int{{1, 2, 3}, {7, 1, 4}, {last, last - 1, 1}, {1 << 16, 255, last}, {math.MaxInt32, 1 << 30, 8}} {
			x := newPair(t, len(c)-1, commits(c))
			l := sharesAt(c, places...)
			x.puts(t, 0, l[:len(c)], true)
			checkHave(t, x.g, len(c))
			checkKey(t, x.g, c[0], api.OK)
			x.puts(t, 0, l, false)
		}
	}
}

// 27.1: what another program made of the document's words.
func TestPutMade(t *testing.T) {
	t.Parallel()
	c, points, shares := made()
	for skip := range shares {
		x := newPair(t, 2, [][]api.Point{points})
		l := slices.Concat(shares[skip:], shares[:skip])
		x.puts(t, 0, l[:3], true)
		checkKey(t, x.g, c[0], api.OK)
		x.puts(t, 0, l, false)
	}
}

// 27.1: of a place there is one value: others are refused, and none of them bars the right one.
func TestPutValue(t *testing.T) {
	t.Parallel()
	for _, c := range dealt() {
		x := newPair(t, len(c)-1, commits(c))
		for _, place := range []int{2, 1, 9}[:len(c)] {
			v := valueAt(c, place)
			others := []api.Num{plus(v, 1), plus(v, -1), plus(v, 1<<32), residue(new(big.Int).Neg(toBig(v))), {}, {1}, near(-1), order, near(1), greatest, valueAt(c, place+1), valueAt(c, 0)}
			for _, other := range others {
				if other != v {
					x.put(t, 0, api.Share{At: place, V: other}, false)
				}
			}
			for _, bit := range []int{0, 1, 63, 64, 127, 128, 191, 192, 255} {
				other := v
				other[bit/64] ^= 1 << (bit % 64)
				x.put(t, 0, api.Share{At: place, V: other}, false)
			}
			x.put(t, 0, api.Share{At: place, V: v}, true)
		}
		checkKey(t, x.g, c[0], api.OK)
	}
}

// 27.1: a value of q or more is none, though its rest is right.
func TestPutValueBeyond(t *testing.T) {
	for _, c := range [][]api.Num{{{}}, {{1}}, {{5}, {3}}, {{}, {}}, {{9}, {1}, {2}}} {
		x := newPair(t, len(c)-1, commits(c))
		for place := 1; place <= len(c); place++ {
			v := valueAt(c, place)
			x.put(t, 0, api.Share{At: place, V: fromBig(new(big.Int).Add(q, toBig(v)))}, false)
			x.put(t, 0, api.Share{At: place, V: v}, true)
		}
	}
	// q - 1 is a value, and q, whose rest is 0, is none.
	x := newPair(t, 0, commits([]api.Num{near(-1)}, []api.Num{{}}))
	x.put(t, 0, api.Share{At: 1, V: near(-1)}, true)
	x.put(t, 1, api.Share{At: 1, V: order}, false)
	x.put(t, 1, api.Share{At: 1}, true)
	checkKey(t, x.g, near(-1), api.OK)
}

// 27.1: a place is 1 to 2^31.
func TestPutPlace(t *testing.T) {
	// These are the same at all places: only the place can be refused.
	for _, c := range [][]api.Num{{{5}}, {{5}, {}}, {{5}, {}, {}}, {{}, {}}} {
		x := newPair(t, len(c)-1, commits(c))
		for _, place := range append([]int{0, -1, -2, -last, -last - 1, last + 1, last + 2, 2 * last, 1<<40 + 1}, farInts()...) {
			if place < 1 || place > last {
				x.put(t, 0, api.Share{At: place, V: c[0]}, false)
			}
		}
		for _, place := range []int{last, 1, last - 1}[:len(c)] {
			x.put(t, 0, api.Share{At: place, V: c[0]}, true)
		}
	}
	// These are not: another place has another value, though the place is some bits away, or wraps to it.
	c := []api.Num{{5}, {3}}
	x := newPair(t, 1, commits(c))
	for _, place := range []int{0, 2, 3, -1, 1 + 1<<8, 1 + 1<<16, 1 + 1<<30, 1 + 1<<31, 1 + 1<<32, math.MinInt + 1} {
		x.put(t, 0, api.Share{At: place, V: api.Num{8}}, false)
	}
	for _, place := range []int{0, -1, last + 1, 1 << 32, math.MinInt, math.MaxInt} {
		x.put(t, 0, shareAt(c, place), false)
	}
	x.put(t, 0, api.Share{At: 1, V: api.Num{8}}, true)
}

// 27.1: a share of a place that there is one of is refused, with the same value and with others; other places are not barred by it.
func TestPutTwice(t *testing.T) {
	for _, places := range [][]int{{1, 2, 3}, {3, 1, last}, {last, 256, 1}} {
		for _, c := range [][]api.Num{{{5}, {3}}, {{5}, {3}, {2}}, {{4}, {}}, {{4}, {}, {}}} {
			x := newPair(t, len(c)-1, commits(c, c))
			for i, place := range places[:len(c)] {
				x.put(t, 0, shareAt(c, place), true)
				for _, ahead := range places[:i+1] {
					v := valueAt(c, ahead)
					for _, s := range []api.Share{{At: ahead, V: v}, {At: ahead, V: v}, {At: ahead, V: plus(v, 1)}, {At: ahead}, {At: ahead, V: greatest}} {
						x.put(t, 0, s, false)
					}
				}
			}
			// The other dealer has none of these places yet.
			x.puts(t, 1, sharesAt(c, places[:len(c)]...), true)
			checkHave(t, x.g, len(c), len(c))
		}
	}
}

// 27.1: behind the t + 1st no share is kept, of whatever place, and none of them alters the key.
func TestPutBehindLast(t *testing.T) {
	for _, c := range [][]api.Num{{{5}}, {{5}, {3}}, {{5}, {3}, {2}}, {{}, {}, {}}} {
		x := newPair(t, len(c)-1, commits(c))
		x.puts(t, 0, sharesAt(c, 6, 2, 4)[:len(c)], true)
		for place := -1; place <= 9; place++ {
			x.put(t, 0, shareAt(c, place), false)
			x.put(t, 0, api.Share{At: place, V: greatest}, false)
			x.put(t, 0, api.Share{At: place, V: plus(valueAt(c, place), 1)}, false)
		}
		x.put(t, 0, shareAt(c, last), false)
		checkHave(t, x.g, len(c))
		checkKey(t, x.g, c[0], api.OK)
	}
}

// 27.1: one dealer's shares are not the others': each has room for t + 1.
func TestPutEachDealer(t *testing.T) {
	r := rand.New(rand.NewSource(4))
	for faults := range 3 {
		polys := [][]api.Num{short(r, faults+1), short(r, faults+1), short(r, faults+1)}
		x := newPair(t, faults, commits(polys...))
		for round := range faults + 1 {
			for _, dealer := range []int{1, 2, 0} {
				x.put(t, dealer, shareAt(polys[dealer], 5-round), true)
			}
			checkHave(t, x.g, round+1, round+1, round+1, 0)
		}
		for dealer, c := range polys {
			x.put(t, dealer, shareAt(c, 6), false)
		}
	}
}

// 27.1: points that are none of the curve, and None, count as 0 times the base, as chapter 14 counts them.
func TestPutAnyPoints(t *testing.T) {
	three := plainBase(api.Num{3})
	for _, p := range append(wrong(), none) {
		x := newPair(t, 1, [][]api.Point{{p, three}, {three, p}, {p, p}})
		for _, place := range []int{2, 1} {
			x.put(t, 0, api.Share{At: place, V: api.Num{uint64(3*place + 1)}}, false)
			x.put(t, 0, api.Share{At: place, V: api.Num{uint64(3 * place)}}, true)
			x.put(t, 1, api.Share{At: place, V: api.Num{uint64(3 * place)}}, place == 1)
			x.put(t, 1, api.Share{At: place, V: api.Num{3}}, place == 2)
			x.put(t, 2, api.Share{At: place, V: order}, false)
			x.put(t, 2, api.Share{At: place, V: api.Num{1}}, false)
			x.put(t, 2, api.Share{At: place}, true)
		}
		checkHave(t, x.g, 2, 2, 2)
		checkKey(t, x.g, api.Num{3}, api.OK)
	}
	// The same point at all places: k + kx + kxx.
	x := newPair(t, 2, [][]api.Point{{three, three, three}})
	x.puts(t, 0, sharesAt([]api.Num{{3}, {3}, {3}}, 1, 2, 3), true)
	checkKey(t, x.g, api.Num{3}, api.OK)
}
