package vault_test

import (
	"testing"

	"sandglass/api"
)

// 28.2: the dealer is the place among the chosen, from 0 on, and not among the deals.
func TestTakePlaces(t *testing.T) {
	t.Parallel()
	dealers := polynomials()
	for _, chosen := range [][]int{{1}, {2}, {3}, {1, 2}, {1, 3}, {2, 3}, {1, 2, 3}} {
		for dealer := -1; dealer <= 4; dealer++ {
			for from := range dealers {
				for epoch := range 2 {
					for of := range 2 {
						x := newPair(t, standard(chosen...))
						want := dealer >= 0 && dealer < len(chosen) && chosen[max(dealer, 0)%len(chosen)] == from+1 && epoch == of
						x.take(t, epoch, dealer, shareAt(dealers[from][of], 4), want)
						x.take(t, epoch, dealer, shareAt(dealers[from][of], 4), false)
					}
				}
			}
		}
	}
}

// 28.2: epochs and dealers of any int.
func TestTakeNone(t *testing.T) {
	t.Parallel()
	x := newPair(t, standard(1, 2))
	c := polynomials()[0]
	for _, k := range append([]int{-64, -2, -1, 2, 3, 4, 63, 64}, farInts()...) {
		x.take(t, k, 0, shareAt(c[0], 1), false)
		x.take(t, k, k, shareAt(c[0], 1), false)
		x.take(t, 0, k, shareAt(c[0], 1), false)
		x.take(t, 1, k, shareAt(c[1], 1), false)
		x.take(t, 0, 0, api.Share{At: k, V: api.Num{8}}, false)
	}
	x.take(t, 0, 0, shareAt(c[0], 1), true)
	x.take(t, 1, 0, shareAt(c[1], 1), true)
}

// 28.2, 27.1: what the gathering answers: t + 1 right shares of a dealer, of as many places, and no more.
func TestTake(t *testing.T) {
	t.Parallel()
	dealers := polynomials()
	x := newPair(t, standard(1, 2))
	for _, wrong := range []api.Share{{}, {At: 1}, {At: 1, V: api.Num{9}}, {At: 2, V: api.Num{8}}, {At: 0, V: api.Num{5}}, {At: -1, V: api.Num{2}}, {At: 1, V: greatest}, {At: 1, V: order}, {At: 1, V: fromBig(digits("ffffffff00000000ffffffffffffffffbce6faada7179e84f3b9cac2fc632559"))}, {At: last + 1, V: valueAt(dealers[0][0], last+1)}} {
		x.take(t, 0, 0, wrong, false)
	}
	x.take(t, 0, 0, shareAt(dealers[0][0], last), true)
	x.take(t, 0, 0, shareAt(dealers[0][0], last), false)
	x.take(t, 0, 1, shareAt(dealers[0][0], 7), false)
	x.take(t, 0, 1, shareAt(dealers[1][0], 7), true)
	x.take(t, 1, 0, shareAt(dealers[0][1], last), true)
	x.take(t, 0, 0, shareAt(dealers[0][0], 2), true)
	x.take(t, 0, 0, shareAt(dealers[0][0], 3), false)
	x.take(t, 0, 0, shareAt(dealers[0][0], 2), false)
	x.take(t, 0, 1, shareAt(dealers[1][0], 1), true)
	x.take(t, 0, 1, shareAt(dealers[1][0], 2), false)
	x.take(t, 1, 0, shareAt(dealers[0][1], 1), true)
	x.take(t, 1, 0, shareAt(dealers[0][1], 2), false)
	x.take(t, 1, 1, shareAt(dealers[1][1], 2), true)
}

// 28.2: neither the clock nor a key of the catalogue is asked for.
func TestTakeEarly(t *testing.T) {
	x := newPair(t, standard(1, 2))
	x.emitNone(t, 1, api.ErrEarly)
	x.takeAll(t, 1, polynomials()[:2]...)
	x.doAll(t, keyCommand(1, keyOf(5)), putCommand(1, "f", sealed(5, "early")))
	x.open(t, "f", "early", api.OK)
	x.emitNone(t, 1, api.ErrEarly)
}

// 28.2: nothing is taken to an epoch that is pruned; a prune that is refused does not prune, and one that a crash took has not.
func TestTakePruned(t *testing.T) {
	t.Parallel()
	dealers := polynomials()
	x := newPair(t, standard(1, 2))
	x.take(t, 0, 0, shareAt(dealers[0][0], 1), true)
	x.do(t, pruneCommand(64), api.ErrArg)
	x.do(t, pruneCommand(-1), api.ErrArg)
	x.take(t, 0, 0, shareAt(dealers[0][0], 2), true)
	x.doAll(t, pruneCommand(0))
	x.take(t, 0, 1, shareAt(dealers[1][0], 1), false)
	x.take(t, 0, 0, shareAt(dealers[0][0], 3), false)
	x.take(t, 1, 0, shareAt(dealers[0][1], 1), true)
	x.crash(0)
	x.take(t, 0, 1, shareAt(dealers[1][0], 1), true)
	x.doAll(t, pruneCommand(63))
	x.take(t, 1, 0, shareAt(dealers[0][1], 2), false)
	x.sync()
	x.crash(0)
	for epoch := -1; epoch < 5; epoch++ {
		x.take(t, epoch, 0, shareAt(dealers[0][1], 1), false)
		x.take(t, epoch, 0, shareAt(dealers[0][0], 1), false)
	}
	x = full(t, pruneSize-1)
	x.take(t, 0, 0, shareAt(dealers[0][0], 1), true)
	x.do(t, pruneCommand(0), api.ErrFull)
	x.take(t, 0, 0, shareAt(dealers[0][0], 1), false)
	x.take(t, 0, 0, shareAt(dealers[0][0], 2), true)
	x.take(t, 0, 1, shareAt(dealers[1][0], 1), true)
	x.take(t, 0, 1, shareAt(dealers[1][0], 2), true)
	x.open(t, "f", "of f", api.OK)
}
