package ledger_test

import (
	"math"
	"math/big"
	"slices"
	"testing"

	"sandglass/api"
	"sandglass/ledger"
)

// goodBodies are keys with both first bytes, of points round about, of a small X, of the greatest, and of some without a pattern.
func goodBodies(t *testing.T) []string {
	t.Helper()
	var l []string
	add := func(n *big.Int) {
		for _, first := range []byte{2, 3} {
			if body := bodyOf(first, n); isPoint(body) {
				l = append(l, body)
			}
		}
	}
	for k := int64(1); k <= 8; k++ {
		add(new(big.Int).SetBytes([]byte(keyOf(k)[1:])))
	}
	for i := int64(0); i < 12; i++ {
		add(big.NewInt(i))
		add(new(big.Int).Sub(prime, big.NewInt(1+i)))
		add(new(big.Int).Mod(new(big.Int).SetBytes([]byte(mixed(32, uint64(i)))), prime))
	}
	if len(l) < 40 || !slices.Contains(l, bodyOf(2, new(big.Int))) {
		t.Fatal("too few keys")
	}
	return l
}

// badBodies are 33 bytes each that are no key: by their first byte, by a number of p or more, by an x without a point.
func badBodies(t *testing.T) (first, large, pointless []string) {
	t.Helper()
	for v := range 256 {
		if v != 2 && v != 3 {
			first = append(first, string([]byte{byte(v)})+keyA[1:], string([]byte{byte(v)})+keyB[1:])
		}
	}
	for i := int64(0); i < 12; i++ {
		x := big.NewInt(i)
		beyond := new(big.Int).Add(prime, x)
		most := new(big.Int).Sub(new(big.Int).Lsh(big.NewInt(1), 256), big.NewInt(i+1))
		for _, mark := range []byte{2, 3} {
			large = append(large, bodyOf(mark, beyond), bodyOf(mark, most))
			if !isPoint(bodyOf(mark, x)) {
				pointless = append(pointless, bodyOf(mark, x))
			}
			if n := new(big.Int).Sub(prime, big.NewInt(i+1)); !isPoint(bodyOf(mark, n)) {
				pointless = append(pointless, bodyOf(mark, n))
			}
		}
	}
	if len(pointless) < 10 {
		t.Fatal("too few")
	}
	return first, large, pointless
}

// 24.1: each epoch takes a key, and tells it; the others have none.
func TestKeyOfEachEpoch(t *testing.T) {
	for epoch := range 64 {
		x := newPair(t, keyCommand(epoch, keyB))
		for other := range 64 {
			if other == epoch {
				checkKey(t, x.l, other, keyB, api.OK)
			} else {
				checkKey(t, x.l, other, "", api.ErrNone)
			}
		}
		x.check(t)
	}
}

// 24.1: all epochs have a key each, others than their neighbours', in whichever order they came.
func TestAllKeys(t *testing.T) {
	keys := []string{keyA, keyB, keyC}
	for _, step := range []int{1, 63, 37, 5} {
		x := newPair(t)
		for i := range 64 {
			epoch := i * step % 64
			checkKey(t, x.l, epoch, "", api.ErrNone)
			x.doAll(t, keyCommand(epoch, keys[epoch%3]))
		}
		for epoch := range 64 {
			checkKey(t, x.l, epoch, keys[epoch%3], api.OK)
			for _, body := range append(keys, noKey) {
				x.do(t, keyCommand(epoch, body), api.ErrTwice)
			}
		}
		x.check(t)
	}
}

// 24.1: bodies that are a point's are keys, and told just so, both of an X.
func TestGoodKeys(t *testing.T) {
	l := goodBodies(t)
	for i, body := range l {
		x := newPair(t, keyCommand(i%64, body))
		checkKey(t, x.l, i%64, body, api.OK)
		x.do(t, keyCommand(i%64, l[(i+1)%len(l)]), api.ErrTwice)
		checkKey(t, x.l, i%64, body, api.OK)
	}
}

// 24.1: bodies that are no point's: ErrPoint, whatever chapter 6 calls it, and the epoch can have a key still.
func TestNoPoint(t *testing.T) {
	first, large, pointless := badBodies(t)
	all := slices.Concat(first, large, pointless)
	for i, body := range all {
		x := newPair(t)
		x.do(t, keyCommand(i%64, body), api.ErrPoint)
		x.do(t, putCommand(i%64, "a", ""), api.ErrNone)
		checkKey(t, x.l, i%64, "", api.ErrNone)
		x.do(t, keyCommand(i%64, keyC), api.OK)
		checkKey(t, x.l, i%64, keyC, api.OK)
	}
	x := newPair(t)
	for _, body := range all {
		x.do(t, keyCommand(7, body), api.ErrPoint)
	}
	x.do(t, keyCommand(7, keyA), api.OK)
	// Where there is a key, or all is pruned, that is told first.
	for _, body := range all {
		x.do(t, keyCommand(7, body), api.ErrTwice)
	}
	x.do(t, pruneCommand(6), api.OK)
	for _, body := range all {
		x.do(t, keyCommand(6, body), api.ErrPruned)
		x.do(t, keyCommand(7, body), api.ErrTwice)
		x.do(t, keyCommand(8, body), api.ErrPoint)
	}
	x.check(t)
}

// 24.1: of an epoch with a key the same one, another one and a wrong one are refused alike, and the key stays.
func TestKeyTwice(t *testing.T) {
	for epoch := range 64 {
		x := newPair(t, keyCommand(epoch, keyA))
		for range 2 {
			for _, body := range []string{keyA, keyB, noKey, zeros[:33], "\x02" + keyA[1:]} {
				x.do(t, keyCommand(epoch, body), api.ErrTwice)
				checkKey(t, x.l, epoch, keyA, api.OK)
			}
		}
		// The same key may be another epoch's.
		x.do(t, keyCommand((epoch+1)%64, keyA), api.OK)
	}
}

// 24.1: epochs up to the last that is pruned take no key, those beyond it do; ahead of a prune all do.
func TestKeyOfPruned(t *testing.T) {
	for last := -1; last <= 63; last++ {
		x := newPair(t)
		if last >= 0 {
			x.doAll(t, pruneCommand(last))
		}
		for epoch := range 64 {
			if epoch <= last {
				for _, body := range []string{keyA, noKey} {
					x.do(t, keyCommand(epoch, body), api.ErrPruned)
				}
				checkKey(t, x.l, epoch, "", api.ErrPruned)
			} else {
				checkKey(t, x.l, epoch, "", api.ErrNone)
				x.do(t, keyCommand(epoch, noKey), api.ErrPoint)
				x.do(t, keyCommand(epoch, keyA), api.OK)
				checkKey(t, x.l, epoch, keyA, api.OK)
			}
		}
		x.check(t)
	}
}

// 24.1: an epoch that had a key, and is pruned, takes none: that it had one is not told.
func TestPrunedKeyAgain(t *testing.T) {
	x := newPair(t, keyCommand(3, keyA), keyCommand(4, keyB), pruneCommand(3))
	for _, body := range []string{keyA, keyB, noKey} {
		x.do(t, keyCommand(3, body), api.ErrPruned)
		x.do(t, keyCommand(4, body), api.ErrTwice)
	}
	checkKey(t, x.l, 3, "", api.ErrPruned)
	checkKey(t, x.l, 4, keyB, api.OK)
}

// 24.1: what is no epoch has no key: ErrArg, also where all is pruned, and where all have one.
func TestKeyOfNoEpoch(t *testing.T) {
	all := newPair(t)
	for epoch := range 64 {
		all.doAll(t, keyCommand(epoch, keyA))
	}
	for _, x := range append(somePairs(t), all) {
		for _, epoch := range append([]int{-1, -2, 64, 65, math.MinInt, math.MaxInt}, farInts()...) {
			checkKey(t, x.l, epoch, "", api.ErrArg)
		}
		checkEnds(t, x.l, x.p)
	}
}

// checkEnds holds the first and the last epoch against the plain count.
func checkEnds(t *testing.T, l *ledger.Ledger, p *plainLedger) {
	t.Helper()
	for _, epoch := range []int{0, 63} {
		key, err := p.key(epoch)
		checkKey(t, l, epoch, key, err)
	}
}

// 24.1: a catalogue tells of each epoch whether it is pruned, has a key, or none.
func TestKeyTells(t *testing.T) {
	x := newPair(t, keyCommand(0, keyA), keyCommand(2, keyB), keyCommand(5, keyC), keyCommand(63, keyA), pruneCommand(2))
	for epoch, want := range map[int]api.Errno{-1: api.ErrArg, 0: api.ErrPruned, 1: api.ErrPruned, 2: api.ErrPruned, 3: api.ErrNone, 4: api.ErrNone, 62: api.ErrNone, 64: api.ErrArg} {
		checkKey(t, x.l, epoch, "", want)
	}
	checkKey(t, x.l, 5, keyC, api.OK)
	checkKey(t, x.l, 63, keyA, api.OK)
}
