package ledger_test

import (
	"testing"

	"sandglass/api"
)

// spread are keys of all epochs, and 32 files of every other one.
func spread(t *testing.T, odd int) pair {
	t.Helper()
	x := newPair(t)
	for epoch := range 64 {
		x.doAll(t, keyCommand(epoch, []string{keyA, keyB, keyC}[epoch%3]))
	}
	for i := range 32 {
		epoch := 2*i + odd
		// The names' order is not that of the epochs.
		x.doAll(t, putCommand(epoch, string([]byte{byte(epoch * 37), 'n'}), mixed(epoch, 1)))
	}
	return x
}

// 24.1: of each epoch: all keys and files up to it go, those beyond it stay.
func TestPrune(t *testing.T) {
	for _, odd := range []int{0, 1} {
		for last := range 64 {
			x := spread(t, odd)
			x.do(t, pruneCommand(last), api.OK)
			checkPruned(t, x.l, last)
			files := 0
			for epoch := range 64 {
				name := string([]byte{byte(epoch * 37), 'n'})
				switch {
				case epoch <= last:
					checkKey(t, x.l, epoch, "", api.ErrPruned)
					checkNoFile(t, x.l, name)
				case epoch%2 == odd:
					files++
					checkGet(t, x.l, name, api.File{Epoch: epoch, Name: name, Body: mixed(epoch, 1)}, api.OK)
					fallthrough
				default:
					checkKey(t, x.l, epoch, []string{keyA, keyB, keyC}[epoch%3], api.OK)
				}
			}
			if got := len(x.l.List()); got != files {
				t.Errorf("up to %d: %d files; want %d", last, got, files)
			}
			x.check(t)
		}
	}
}

// 24.1: of each two epochs, one behind the other: what is pruned never falls, and a second prune lets go only what is beyond the first.
func TestPruneTwice(t *testing.T) {
	for _, first := range []int{0, 1, 7, 31, 62, 63} {
		for second := range 64 {
			x := spread(t, 1)
			x.doAll(t, pruneCommand(first))
			before := stateOf(x.l, x.p.names())
			x.doAll(t, pruneCommand(second))
			checkPruned(t, x.l, max(first, second))
			if second <= first && !stateOf(x.l, x.p.names()).same(before) {
				t.Errorf("%d, then %d: what is pruned already changed something", first, second)
			}
			x.check(t)
		}
	}
}

// 24.1: epochs without a key are pruned as others.
func TestPruneWithoutKey(t *testing.T) {
	for _, last := range []int{0, 1, 5, 62, 63} {
		x := newPair(t, pruneCommand(last))
		checkPruned(t, x.l, last)
		for epoch := range 64 {
			want := api.ErrNone
			if epoch <= last {
				want = api.ErrPruned
			}
			checkKey(t, x.l, epoch, "", want)
		}
		checkList(t, x.l)
	}
	x := newPair(t, keyCommand(2, keyA), putCommand(2, "two", ""), keyCommand(6, keyB), putCommand(6, "six", ""), pruneCommand(4))
	checkList(t, x.l, "six")
	checkPruned(t, x.l, 4)
	checkKey(t, x.l, 4, "", api.ErrPruned)
	checkKey(t, x.l, 5, "", api.ErrNone)
	checkKey(t, x.l, 6, keyB, api.OK)
	x.check(t)
}

// 24.1: step by step from epoch 0 on.
func TestPruneStepByStep(t *testing.T) {
	x := spread(t, 0)
	for last := range 64 {
		x.doAll(t, pruneCommand(last))
		checkPruned(t, x.l, last)
		x.check(t)
		for _, earlier := range []int{0, last / 2, last} {
			x.doAll(t, pruneCommand(earlier))
			checkPruned(t, x.l, last)
		}
		x.check(t)
	}
	checkList(t, x.l)
}

// 24.1: how far it is pruned goes up by prunes alone.
func TestPrunedStays(t *testing.T) {
	x := newPair(t)
	checkPruned(t, x.l, -1)
	x.doAll(t, keyCommand(9, keyA), putCommand(9, "a", ""))
	x.do(t, pruneCommand(64), api.ErrArg)
	x.do(t, pruneCommand(-1), api.ErrArg)
	checkPruned(t, x.l, -1)
	for _, step := range []struct{ epoch, want int }{{0, 0}, {0, 0}, {3, 3}, {2, 3}, {0, 3}, {3, 3}, {4, 4}, {8, 8}, {1, 8}} {
		x.doAll(t, pruneCommand(step.epoch))
		checkPruned(t, x.l, step.want)
		x.do(t, pruneCommand(64), api.ErrArg)
		x.do(t, keyCommand(9, keyB), api.ErrTwice)
		checkPruned(t, x.l, step.want)
	}
	checkList(t, x.l, "a")
	checkKey(t, x.l, 9, keyA, api.OK)
}

// 24.1: a name whose file was pruned is free again, also for another epoch and body; one whose file stays is not.
func TestNameFreeAgain(t *testing.T) {
	x := newPair(t, keyCommand(1, keyA), keyCommand(2, keyB), keyCommand(3, keyC), putCommand(1, "a", "1"), putCommand(2, "b", "2"), putCommand(3, "c", "3"))
	x.do(t, pruneCommand(1), api.OK)
	checkNoFile(t, x.l, "a")
	x.do(t, putCommand(2, "b", ""), api.ErrTwice)
	x.do(t, putCommand(3, "a", "new"), api.OK)
	checkGet(t, x.l, "a", api.File{Epoch: 3, Name: "a", Body: "new"}, api.OK)
	x.do(t, putCommand(2, "a", "1"), api.ErrTwice)
	x.do(t, pruneCommand(2), api.OK)
	checkList(t, x.l, "a", "c")
	x.do(t, putCommand(3, "a", ""), api.ErrTwice)
	x.do(t, putCommand(3, "b", ""), api.OK)
	x.check(t)
	x.do(t, pruneCommand(3), api.OK)
	checkList(t, x.l)
	x.check(t)
}

// 24.1: places of files that were pruned are free again: just as many.
func TestPlacesFreeAgain(t *testing.T) {
	for _, last := range []int{0, 1, 30, 61, 62, 63} {
		x := spread(t, 0)
		x.do(t, putCommand(63, "new", ""), api.ErrFull)
		x.do(t, pruneCommand(last), api.OK)
		if last == 63 {
			x.do(t, putCommand(63, "new", ""), api.ErrPruned)
			continue
		}
		free := last/2 + 1
		for i := range free {
			x.do(t, putCommand(63, string([]byte{'m', byte(i)}), "x"), api.OK)
		}
		x.do(t, putCommand(63, "new", ""), api.ErrFull)
		if got := len(x.l.List()); got != 32 {
			t.Errorf("up to %d: %d files", last, got)
		}
		x.check(t)
	}
}

// 24.1: a prune is never refused for what is there, and one that is refused lets nothing go.
func TestRefusedPrune(t *testing.T) {
	for _, x := range somePairs(t) {
		for _, epoch := range append([]int{-1, 64}, farInts()...) {
			x.do(t, pruneCommand(epoch), api.ErrArg)
		}
		for _, epoch := range []int{0, 5, 62, 63} {
			x.do(t, api.Command{Kind: 3, Epoch: epoch, Name: "a"}, api.ErrArg)
			x.do(t, api.Command{Kind: 3, Epoch: epoch, Body: "x"}, api.ErrArg)
		}
		x.check(t)
		for _, epoch := range []int{0, 5, 4, 62, 63, 0, 63} {
			x.do(t, pruneCommand(epoch), api.OK)
			x.check(t)
		}
	}
}
