package vault_test

import (
	"math"
	"slices"
	"testing"

	"sandglass/api"
	"sandglass/feldman"
)

// 28.2: the document's example.
func TestExample(t *testing.T) {
	x := newPair(t, standard(1, 2))
	x.emitNone(t, 0, api.ErrEarly)
	x.tick(9)
	x.emitNone(t, 0, api.ErrEarly)
	x.tick(10)
	x.emit(t, 0, 11, 20)
}

// 28.2: the shares are me's, of the chosen dealers alone, in their order, for each node and each epoch.
func TestEmit(t *testing.T) {
	t.Parallel()
	dealers := polynomials()
	for _, chosen := range [][]int{{1}, {2}, {3}, {1, 2}, {1, 3}, {2, 3}, {1, 2, 3}} {
		for me := 1; me <= 4; me++ {
			s := standard(chosen...)
			s.me = me
			x := newPair(t, s)
			x.tick(15)
			for epoch := range 2 {
				var want []uint64
				for _, dealer := range chosen {
					c := dealers[dealer-1][epoch]
					want = append(want, c[0][0]+c[1][0]*uint64(me))
				}
				x.emit(t, epoch, want...)
				x.emit(t, epoch, want...)
			}
		}
	}
}

// 28.2: of one node, and of the greatest committee, with long values.
func TestEmitCommittees(t *testing.T) {
	t.Parallel()
	s := setting{n: 1, me: 1, deals: []api.Deal{dealt(1, [][]api.Num{{{7}}, {{8}}, {{}}, {{9}}})}, chosen: []int{1}}
	x := newPair(t, s)
	x.tick(3)
	for epoch, want := range []uint64{7, 8, 0, 9} {
		x.emit(t, epoch, want)
	}
	long := [][]api.Num{{residue(toBig(greatest)), plus(api.Num{}, -1), plus(api.Num{}, -2)}}
	s = setting{n: 7, t: 2, me: 7, deals: []api.Deal{dealt(7, long), dealt(7, long)}, chosen: []int{1, 2}}
	x = newPair(t, s)
	x.tick(0)
	value := valueAt(long[0], 7)
	if l, err := x.v.Emit(0); err != api.OK || !slices.Equal(l, []api.Share{{At: 7, V: value}, {At: 7, V: value}}) {
		t.Errorf("%x, %d", l, err)
	}
}

// 28.2: epochs that are none of the batch are told ErrArg, be they open or not.
func TestEmitNoEpoch(t *testing.T) {
	x := newPair(t, standard(1, 2))
	for _, now := range []int{0, 10, 15, 20, math.MaxInt} {
		x.tick(now)
		for _, epoch := range append([]int{-64, -2, -1, 2, 3, 4, 63, 64}, farInts()...) {
			x.emitNone(t, epoch, api.ErrArg)
		}
	}
	x.emit(t, 1, 3, 16)
}

// 28.2: of each pair of refusals at once it is the first.
func TestEmitOrder(t *testing.T) {
	x := newPair(t, standard(1, 2))
	x.emitNone(t, 0, api.ErrEarly)
	x.emitNone(t, 2, api.ErrArg) // none of the batch, and early
	x.doAll(t, pruneCommand(0))
	x.emitNone(t, 0, api.ErrPruned) // pruned, and early
	x.emitNone(t, 1, api.ErrEarly)
	x.emitNone(t, -1, api.ErrArg)
	x.doAll(t, pruneCommand(63))
	for _, now := range []int{-1, 0, 14, 15, math.MaxInt} {
		x.emitNone(t, 0, api.ErrPruned)
		x.emitNone(t, 1, api.ErrPruned)
		for _, epoch := range append([]int{-1, 2, 3, 62, 63, 64}, farInts()...) {
			x.emitNone(t, epoch, api.ErrArg) // none of the batch, and pruned
		}
		x.tick(now)
	}
	x.sync()
	x.crash(0)
	x.emitNone(t, 0, api.ErrPruned)
}

// 28.2: a prune of an epoch shuts it, and those ahead of it, and no other one; keys and files have no say.
func TestEmitPruned(t *testing.T) {
	for pruned := range 6 {
		s := setting{n: 4, t: 1, me: 3, deals: []api.Deal{dealt(4, [][]api.Num{{{5}, {3}}, {{1}, {1}}, {{6}, {2}}, {{8}, {1}}})}, chosen: []int{1}, each: 1}
		x := newPair(t, s)
		x.tick(100)
		x.doAll(t, pruneCommand(pruned), pruneCommand(0))
		for epoch, want := range []uint64{14, 4, 12, 11} {
			if epoch <= pruned {
				x.emitNone(t, epoch, api.ErrPruned)
			} else {
				x.emit(t, epoch, want)
			}
		}
	}
}

// 28.2, R4: what is done to a list that was told changes nothing.
func TestEmitAltered(t *testing.T) {
	x := newPair(t, standard(1, 2, 3))
	x.tick(15)
	l, _ := x.v.Emit(0)
	other, _ := x.v.Emit(0)
	clear(l)
	l = append(l[:1], l...)
	l[0].V[3] = top
	x.emit(t, 0, 11, 20, 11)
	x.emit(t, 1, 3, 16, 12)
	if !slices.Equal(other, []api.Share{{At: 2, V: api.Num{11}}, {At: 2, V: api.Num{20}}, {At: 2, V: api.Num{11}}}) {
		t.Errorf("the other answer became %v", other)
	}
	next, _ := x.v.Emit(0)
	_ = append(next, api.Share{At: 9})
	x.emit(t, 1, 3, 16, 12)
}

// 28.2, T5: what goes out is what the dealers' points verify.
func TestEmitVerified(t *testing.T) {
	x := newPair(t, standard(1, 3))
	x.tick(15)
	for epoch := range 2 {
		l, _ := x.v.Emit(epoch)
		for i, s := range l {
			if !feldman.Verify(x.p.chose[i].Commits[epoch], s) {
				t.Errorf("epoch %d, dealer %d: %v", epoch, i, s)
			}
		}
	}
}
