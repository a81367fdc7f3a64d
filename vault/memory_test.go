package vault_test

import (
	"math"
	"slices"
	"testing"

	"sandglass/api"
)

// roomy is the setting with things behind the end of each list.
func (s setting) roomy() setting {
	deals := make([]api.Deal, len(s.deals))
	for i, d := range s.deals {
		c := copyOf(d)
		for k := range c.Commits {
			c.Commits[k] = append(c.Commits[k], base, none)[:len(d.Commits[k])]
		}
		for k := range c.Values {
			c.Values[k] = append(c.Values[k], api.Num{1}, api.Num{2})[:len(d.Values[k])]
		}
		c.Commits = append(c.Commits, []api.Point{base, base}, nil)[:len(d.Commits)]
		c.Values = append(c.Values, []api.Num{{3}, {4}}, nil)[:len(d.Values)]
		deals[i] = c
	}
	s.deals = append(deals, deals...)[:len(deals)]
	s.chosen = append(slices.Clone(s.chosen), 3, 1, 2)[:len(s.chosen)]
	return s
}

// whole is a copy of all that the setting's lists reach, behind their ends, too.
func (s setting) whole() setting {
	s.chosen = slices.Clone(s.chosen[:cap(s.chosen)])
	deals := slices.Clone(s.deals[:cap(s.deals)])
	for i, d := range deals {
		deals[i] = copyOf(api.Deal{Commits: d.Commits[:cap(d.Commits)], Values: d.Values[:cap(d.Values)]})
		for k, l := range d.Commits[:cap(d.Commits)] {
			deals[i].Commits[k] = slices.Clone(l[:cap(l)])
		}
		for k, l := range d.Values[:cap(d.Values)] {
			deals[i].Values[k] = slices.Clone(l[:cap(l)])
		}
	}
	s.deals = deals
	return s
}

func (s setting) same(other setting) bool {
	return slices.Equal(s.chosen, other.chosen) && slices.EqualFunc(s.deals, other.deals, func(a, b api.Deal) bool {
		return slices.EqualFunc(a.Commits, b.Commits, slices.Equal) && slices.EqualFunc(a.Values, b.Values, slices.Equal)
	})
}

// busy does some of all calls.
func (x pair) busy(t *testing.T) {
	t.Helper()
	x.doAll(t, keyCommand(0, keyOf(7)), putCommand(0, "f", sealed(7, "of f")))
	x.sync()
	x.takeAll(t, 0, polynomials()[:2]...)
	x.open(t, "f", "of f", api.OK)
	x.tick(15)
	x.emit(t, 0, 11, 20)
	x.emit(t, 1, 3, 16)
	x.crash(5)
	x.takeAll(t, 0, polynomials()[:2]...)
	x.open(t, "f", "of f", api.OK)
	x.check(t)
}

// R4: what is handed in is not changed, with what lies behind its ends, neither by New nor by the calls behind it.
func TestHandedInStays(t *testing.T) {
	s := standard(1, 2).roomy()
	ahead := s.whole()
	x := newPair(t, s)
	x.busy(t)
	if !s.whole().same(ahead) {
		t.Error("what was handed in is another one")
	}
	for _, chosen := range [][]int{{2, 1}, {1, 4}, {0}, {1, 1}, nil} {
		s = standard(chosen...).roomy()
		ahead = s.whole()
		checkNew(t, s, false)
		if !s.whole().same(ahead) {
			t.Errorf("chosen %d: what was handed in is another one", chosen)
		}
	}
}

// R4: what lies behind the end of a list has no say.
func TestBehindTheEnd(t *testing.T) {
	newPair(t, standard(1, 2).roomy()).busy(t)
	s := standard(1, 2).roomy()
	s.chosen = s.chosen[:1]
	x := newPair(t, s)
	x.tick(10)
	x.emit(t, 0, 11)
	s.chosen = s.chosen[:0]
	checkNew(t, s, false)
	s = standard(1, 2, 3).roomy()
	s.deals = s.deals[:2]
	checkNew(t, s, false)
	s = standard(1).roomy()
	s.deals[0].Values[1] = s.deals[0].Values[1][:1]
	checkNew(t, s, false)
	s = standard(1).roomy()
	s.deals[0].Commits[1] = s.deals[0].Commits[1][:1]
	checkNew(t, s, false)
}

// R4: the deals and the chosen are not kept: what becomes of them behind New has no say, ahead of crashes and behind them.
func TestAlteredBehindNew(t *testing.T) {
	t.Parallel()
	for i, spoil := range []func(s setting){
		func(s setting) { clear(s.deals) },
		func(s setting) { clear(s.chosen) },
		func(s setting) { s.chosen[0], s.chosen[1] = 2, 3 },
		func(s setting) { slices.Reverse(s.deals) },
		func(s setting) { clear(s.deals[0].Commits) },
		func(s setting) { clear(s.deals[1].Values) },
		func(s setting) { s.deals[0].Commits[0][0] = base },
		func(s setting) { s.deals[1].Commits[0][1].X[0]++ },
		func(s setting) { slices.Reverse(s.deals[1].Commits) },
		func(s setting) { s.deals[0].Values[1][0][0]++ },
		func(s setting) { clear(s.deals[1].Values[1]) },
		func(s setting) { slices.Reverse(s.deals[0].Values) },
		func(s setting) { slices.Reverse(s.deals[1].Values[1]) },
		func(s setting) {
			for _, d := range s.deals[:cap(s.deals)] {
				clear(d.Commits[:cap(d.Commits)])
				clear(d.Values[:cap(d.Values)])
			}
		},
		func(s setting) {
			for _, d := range s.deals {
				for _, l := range d.Commits {
					clear(l[:cap(l)])
				}
				for _, l := range d.Values {
					clear(l[:cap(l)])
				}
			}
		},
	} {
		s := standard(1, 2).roomy()
		v, err := s.vault()
		x := pair{v, plainNew(standard(1, 2))}
		spoil(s)
		if err != api.OK {
			t.Fatal(err)
		}
		x.check(t)
		x.busy(t)
		if t.Failed() {
			t.Fatalf("%d", i)
		}
	}
}

// R4: no two answers share memory, nor does one with what is kept.
func TestAnswersAreNew(t *testing.T) {
	x := newPair(t, standard(1, 2))
	x.busy(t)
	for range 3 {
		l, _ := x.v.Emit(0)
		names := x.v.List()
		for i := range l[:cap(l)] {
			l[:cap(l)][i] = api.Share{At: math.MaxInt}
		}
		clear(names[:cap(names)])
		x.emit(t, 0, 11, 20)
		x.list(t, "f")
	}
	x.check(t)
}

// R4, 28.2: one vault knows nothing of another one's, also if they are made of the same lists.
func TestTwoVaults(t *testing.T) {
	t.Parallel()
	s := standard(1, 2)
	one, other := newPair(t, s), newPair(t, s)
	if one.v == other.v {
		t.Fatal("the same vault twice")
	}
	one.busy(t)
	other.check(t)
	other.list(t)
	other.emitNone(t, 0, api.ErrEarly)
	other.doAll(t, keyCommand(0, keyOf(7)), putCommand(0, "f", sealed(7, "other")))
	other.open(t, "f", "", api.ErrShare)
	other.crash(0)
	one.check(t)
	one.list(t, "f")
	one.doAll(t, pruneCommand(0))
	other.tick(10)
	other.emit(t, 0, 11, 20)
	later := newPair(t, s)
	later.list(t)
	later.emitNone(t, 0, api.ErrEarly)
	later.busy(t)
	one.check(t)
	other.check(t)
}

// 28.1: the same deal for several dealers: each has its own shares.
func TestSameDeal(t *testing.T) {
	s := standard(1, 2, 3)
	s.deals[1], s.deals[2] = s.deals[0], s.deals[0]
	x := newPair(t, s)
	x.tick(10)
	x.emit(t, 0, 11, 11, 11)
	x.doAll(t, keyCommand(0, keyOf(15)), putCommand(0, "f", sealed(15, "three times")))
	c := polynomials()[0][0]
	for _, dealer := range []int{1, 0, 2} {
		x.open(t, "f", "", api.ErrShare)
		x.take(t, 0, dealer, shareAt(c, 1), true)
		x.take(t, 0, dealer, shareAt(c, 2), true)
		x.take(t, 0, dealer, shareAt(c, 3), false)
	}
	x.open(t, "f", "three times", api.OK)
}
