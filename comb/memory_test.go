package comb_test

import (
	"slices"
	"sync"
	"testing"

	"sandglass/api"
	"sandglass/comb"
)

// roomy is the list, with others behind its end.
func roomy[T any](l []T, behind ...T) []T {
	return append(slices.Clone(l), behind...)[:len(l)]
}

// unchanged holds that a list is as it was, also behind its end.
func unchanged[T comparable](t *testing.T, what string, l, was []T) {
	t.Helper()
	if l = l[:len(was)]; !slices.Equal(l, was) {
		t.Errorf("%s changed what was handed in: %v; was %v", what, l, was)
	}
}

// R4: what is handed in is not changed, nor what lies behind its end, and what lies there counts nothing.
func TestHandedInIsNotChanged(t *testing.T) {
	t.Parallel()
	d, _ := comb.Naf(mixed, 5)
	row := roomy(d, -1, 3, 9)
	whole := slices.Clone(row[:len(d)+3])
	if got := comb.Value(row); got != mixed {
		t.Errorf("Value: %x", got)
	}
	unchanged(t, "Value", row, whole)

	k, p := randoms(3, 315), points()[1:4]
	numbers, of := roomy(k, mixed, most), roomy(p, base, api.Point{}, none)
	wholeK, wholeP := slices.Clone(numbers[:5]), slices.Clone(of[:6])
	checkPoint(t, "Sum", comb.Sum(numbers, of), total(k, p))
	checkPoint(t, "Sum", comb.Sum(numbers[:1], of), total(k[:1], p))
	checkPoint(t, "Sum", comb.Sum(numbers, of[:2]), total(k, p[:2]))
	batch(t, numbers)
	batch(t, numbers[:1])
	unchanged(t, "Sum or Batch", numbers, wholeK)
	unchanged(t, "Sum", of, wholeP)
}

// R4: the digits that are handed out are new ones each time.
func TestDigitsAreNew(t *testing.T) {
	for _, k := range []api.Num{{7}, q, most} {
		one, _ := comb.Naf(k, 4)
		other, _ := comb.Naf(k, 4)
		want := slices.Clone(one)
		for i := range one {
			one[i] = 99
		}
		one = append(one, 1, 2, 3)
		unchanged(t, "an altered answer", other, want)
		naf(t, k, 4)
	}
}

// R4: a list of Odds that is altered changes nothing: no other list, no table, no sum.
func TestOddsAreNew(t *testing.T) {
	table := comb.New(base)
	one, other := comb.Odds(base), comb.Odds(base)
	for i := range one {
		one[i] = ofBase(int64(i))
	}
	checkOdds(t, base, other)
	checkOdds(t, base, comb.Odds(base))
	checkPoint(t, "Mul", table.Mul(mixed), multiple(mixed, base))
	checkPoint(t, "Mul", comb.New(base).Mul(mixed), multiple(mixed, base))
	sum(t, []api.Num{mixed}, []api.Point{base})
	batch(t, []api.Num{mixed})
}

// R4: a list of Batch that is altered changes nothing, and the numbers are not kept.
func TestBatchIsNew(t *testing.T) {
	k := []api.Num{{3}, {}, most}
	one, other := comb.Batch(k), comb.Batch(k)
	for i := range one {
		one[i] = none
		k[i] = api.Num{1}
	}
	checkPoint(t, "Batch", other[0], ofBase(3))
	checkPoint(t, "Batch", other[1], none)
	checkPoint(t, "Batch", other[2], multiple(most, base))
	batch(t, []api.Num{{3}, {}, most})
	batch(t, k)
}

// R4: a table keeps nothing of the list that its point stood in.
func TestPointIsNotKept(t *testing.T) {
	l := comb.Odds(base)
	table := comb.New(l[1])
	l[1] = none
	checkPoint(t, "Mul", table.Mul(api.Num{5}), ofBase(15))
	was := table.Mul(api.Num{7})
	was.X[0]++
	checkPoint(t, "Mul", table.Mul(api.Num{7}), ofBase(21))
}

// R5: one table that many ask at the same time, and all other calls, tell what they tell alone.
func TestAtOnce(t *testing.T) {
	t.Parallel()
	table := comb.New(base)
	var all sync.WaitGroup
	for range 8 {
		all.Go(func() {
			for _, k := range randoms(6, 316) {
				checkPoint(t, "Mul", table.Mul(k), multiple(k, base), k)
				naf(t, k, 5)
				sum(t, []api.Num{k, mixed}, points()[1:])
				batch(t, []api.Num{k})
			}
		})
	}
	all.Wait()
}
