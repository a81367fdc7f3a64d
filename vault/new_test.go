package vault_test

import (
	"math"
	"slices"
	"testing"

	"sandglass/api"
)

// with is the setting with these deals.
func (s setting) with(deals ...api.Deal) setting {
	s.deals = deals
	return s
}

// simple is one polynomial of t + 1 coefficients; t below 0 has one without.
func simple(t int) [][]api.Num {
	var c []api.Num
	for i := range t + 1 {
		c = append(c, api.Num{uint64(3 + i)})
	}
	return [][]api.Num{c}
}

// 28.1, 25.1: of all committees at the bounds and one beyond there is a vault just for their nodes.
func TestCommittees(t *testing.T) {
	t.Parallel()
	for n := -1; n <= 9; n++ {
		for faults := -1; faults <= 3; faults++ {
			s := setting{n: n, t: faults, deals: []api.Deal{dealt(n, simple(faults))}, chosen: []int{1}}
			for me := -1; me <= 9; me++ {
				s.me = me
				checkNew(t, s, mayBe(n, faults) && me >= 1 && me <= n)
			}
		}
	}
}

// 28.1: n, t and me of any int.
func TestFarCommittees(t *testing.T) {
	t.Parallel()
	for _, k := range farInts() {
		s := standard(1, 2)
		s.n = k
		checkNew(t, s, false)
		s = standard(1, 2)
		s.t = k
		checkNew(t, s, false)
		s = standard(1, 2)
		s.me = k
		checkNew(t, s, false)
		s.n, s.t = k, k
		checkNew(t, s, false)
		s.n, s.t, s.me = 4, k, 1
		checkNew(t, s, false)
	}
}

// 28.1: a deal of another committee serves none of this one.
func TestOtherCommittee(t *testing.T) {
	for _, x := range []struct {
		n, t int
		want bool
	}{{4, 1, true}, {5, 1, false}, {3, 1, false}, {4, 0, false}, {4, 2, false}, {7, 1, false}, {7, 2, false}, {1, 0, false}} {
		s := standard(1, 3)
		s.n, s.t = x.n, x.t
		checkNew(t, s, x.want)
	}
}

// 28.1: the chosen dealers rise, and are the places of deals, from 1 on.
func TestChosen(t *testing.T) {
	t.Parallel()
	for _, chosen := range [][]int{{1}, {2}, {3}, {1, 2}, {1, 3}, {2, 3}, {1, 2, 3}} {
		checkNew(t, standard(chosen...), true)
	}
	for _, chosen := range [][]int{
		nil, {}, make([]int, 0, 3), {0}, {-1}, {4}, {5}, {0, 1}, {-1, 1}, {3, 4}, {1, 2, 3, 4}, {0, 1, 2, 3}, {1, 4}, {2, 0}, {1, -1},
		{1, 1}, {3, 3}, {2, 1}, {3, 1}, {3, 2, 1}, {1, 3, 2}, {2, 1, 3}, {1, 2, 2}, {1, 1, 2}, {2, 3, 1}, {1, 2, 3, 3}, {1, 2, 3, 1},
	} {
		checkNew(t, standard(chosen...), false)
	}
	for _, k := range farInts() {
		for _, chosen := range [][]int{{k}, {1, k}, {k, 1}, {1, 2, 3, k}, {k, k}} {
			checkNew(t, standard(chosen...), false)
		}
	}
	for _, deals := range [][]api.Deal{nil, {}, make([]api.Deal, 0, 3)} {
		for _, chosen := range [][]int{nil, {}, {0}, {1}, {-1}} {
			checkNew(t, standard(chosen...).with(deals...), false)
		}
	}
}

// 28.1: many dealers, more than there are nodes.
func TestManyDealers(t *testing.T) {
	t.Parallel()
	d := dealt(1, simple(0))
	s := setting{n: 1, me: 1, begin: 0, each: 1}
	var want []uint64
	for i := 1; i <= 40; i++ {
		s.deals = append(s.deals, d, api.Deal{})
		s.chosen = append(s.chosen, 2*i-1)
		want = append(want, 3)
	}
	x := newPair(t, s)
	x.tick(0)
	x.emit(t, 0, want...)
	x.doAll(t, keyCommand(0, keyOf(120)), putCommand(0, "a", sealed(120, "of many")))
	x.open(t, "a", "", api.ErrShare)
	for dealer := range 40 {
		x.take(t, 0, dealer, api.Share{At: 1 + dealer, V: api.Num{3}}, true)
	}
	x.open(t, "a", "of many", api.OK)
	s.chosen[20]++
	checkNew(t, s, false)
}

// spoiled are what a deal of two epochs to four nodes can be altered to, such that it serves node 2 not.
func spoiled() map[string]func(*api.Deal) {
	return map[string]func(*api.Deal){
		"nothing":             func(d *api.Deal) { *d = api.Deal{} },
		"no commits":          func(d *api.Deal) { d.Commits = nil },
		"no values":           func(d *api.Deal) { d.Values = nil },
		"a value":             func(d *api.Deal) { d.Values[1][0][0]++ },
		"the second value":    func(d *api.Deal) { d.Values[1][1][0]-- },
		"a value by q":        func(d *api.Deal) { d.Values[1][1] = fromBig(toBig(d.Values[1][1]).Add(q, toBig(d.Values[1][1]))) },
		"another one's":       func(d *api.Deal) { d.Values[1] = d.Values[0] },
		"values turned":       func(d *api.Deal) { slices.Reverse(d.Values[1]) },
		"a value too many":    func(d *api.Deal) { d.Values[1] = append(d.Values[1], api.Num{}) },
		"a value missing":     func(d *api.Deal) { d.Values[1] = d.Values[1][:1] },
		"none of mine":        func(d *api.Deal) { d.Values[1] = nil },
		"a node missing":      func(d *api.Deal) { d.Values = d.Values[:3] },
		"only two nodes":      func(d *api.Deal) { d.Values = d.Values[:2] },
		"only one node":       func(d *api.Deal) { d.Values = d.Values[:1] },
		"a node too many":     func(d *api.Deal) { d.Values = append(d.Values, d.Values[0]) },
		"a point":             func(d *api.Deal) { d.Commits[0][0] = d.Commits[0][1] },
		"the last point":      func(d *api.Deal) { d.Commits[1][1] = none },
		"a point that's none": func(d *api.Deal) { d.Commits[1][0].X = greatest },
		"points turned":       func(d *api.Deal) { slices.Reverse(d.Commits[0]) },
		"commits turned":      func(d *api.Deal) { slices.Reverse(d.Commits) },
		"a point missing":     func(d *api.Deal) { d.Commits[0] = d.Commits[0][:1] },
		"points missing":      func(d *api.Deal) { d.Commits[1] = nil },
		"a point too many":    func(d *api.Deal) { d.Commits[1] = append(d.Commits[1], none) },
		"a commit missing":    func(d *api.Deal) { d.Commits = d.Commits[:1] },
		"a commit too many":   func(d *api.Deal) { d.Commits = append(d.Commits, d.Commits[0]) },
		"five epochs": func(d *api.Deal) {
			*d = dealt(4, [][]api.Num{{{5}, {3}}, {{1}, {1}}, {{1}, {1}}, {{1}, {1}}, {{1}, {1}}})
		},
	}
}

// 28.1: a deal that does not serve me is refused where it is chosen, at any place among the chosen, and does no harm where it is not.
func TestSpoiled(t *testing.T) {
	t.Parallel()
	for name, spoil := range spoiled() {
		s := standard()
		for dealer := range 3 {
			deals := slices.Clone(s.deals)
			deals[dealer] = changed(deals[dealer], spoil)
			bad := s.with(deals...)
			for _, chosen := range [][]int{{1}, {2}, {3}, {1, 2}, {1, 3}, {2, 3}, {1, 2, 3}} {
				bad.chosen = chosen
				checkNew(t, bad, !slices.Contains(chosen, dealer+1))
			}
		}
		if t.Failed() {
			t.Fatal(name)
		}
	}
}

// 28.1: what is told of another node is that node's to check.
func TestOtherNodesValues(t *testing.T) {
	for name, spoil := range map[string]func(*api.Deal){
		"a value":          func(d *api.Deal) { d.Values[0][0][0]++ },
		"the last value":   func(d *api.Deal) { d.Values[3][1] = greatest },
		"none of a node":   func(d *api.Deal) { d.Values[2] = nil },
		"a value too many": func(d *api.Deal) { d.Values[3] = append(d.Values[3], api.Num{}) },
	} {
		s := standard(1, 2, 3)
		for dealer := range s.deals {
			deals := slices.Clone(s.deals)
			deals[dealer] = changed(deals[dealer], spoil)
			checkNew(t, s.with(deals...), true)
		}
		x := newPair(t, s.with(changed(s.deals[0], spoil), s.deals[1], s.deals[2]))
		x.tick(10)
		x.emit(t, 0, 11, 20, 11)
		if t.Failed() {
			t.Fatal(name)
		}
	}
}

// 28.1: all chosen deals have as many Commits; those that are not chosen may have others.
func TestCommitsAsMany(t *testing.T) {
	t.Parallel()
	c := []api.Num{{5}, {3}}
	var deals []api.Deal
	for _, epochs := range []int{1, 2, 3, 4, 2, 1, 4, 3, 1} {
		deals = append(deals, dealt(4, slices.Repeat([][]api.Num{c}, epochs)))
	}
	s := standard().with(deals...)
	for a := 1; a <= 9; a++ {
		for b := a + 1; b <= 9; b++ {
			s.chosen = []int{a, b}
			checkNew(t, s, len(deals[a-1].Commits) == len(deals[b-1].Commits))
		}
	}
	for _, chosen := range [][]int{{1, 6, 9}, {2, 5}, {3, 8}, {4, 7}} {
		s.chosen = chosen
		x := newPair(t, s)
		x.tick(10 + 3*5)
		for epoch := range 6 {
			if epoch < len(deals[chosen[0]-1].Commits) {
				x.emit(t, epoch, slices.Repeat([]uint64{11}, len(chosen))...)
			} else {
				x.emitNone(t, epoch, api.ErrArg)
			}
		}
	}
	for _, chosen := range [][]int{{1, 6, 8}, {1, 2, 6}, {1, 2, 5}, {2, 5, 8}, {4, 7, 9}, {3, 7, 8}} {
		s.chosen = chosen
		checkNew(t, s, false)
	}
}

// 28.1, 26.1: begin and each of any int: as the nearest that may be, and no reason to refuse.
func TestBeginAndEach(t *testing.T) {
	t.Parallel()
	begins := []int{math.MinInt, -1 << 30, -1, 0, 1, 10, 1<<30 - 1, 1 << 30, 1<<30 + 1, 1 << 40, math.MaxInt}
	eaches := []int{math.MinInt, -5, -1, 0, 1, 2, 5, 1<<20 - 1, 1 << 20, 1<<20 + 1, 1 << 40, math.MaxInt}
	for _, begin := range begins {
		for _, each := range eaches {
			s := standard(1)
			s.begin, s.each = begin, each
			x := newPair(t, s)
			for epoch := range 2 {
				at := timeOf(begin, each, epoch)
				if at > 0 {
					x.tick(at - 1)
					x.emitNone(t, epoch, api.ErrEarly)
				}
				x.tick(at)
				x.emit(t, epoch, []uint64{11, 3}[epoch])
			}
			if t.Failed() {
				t.Fatalf("begin %d, each %d", begin, each)
			}
		}
	}
	for _, k := range append(begins, eaches...) {
		s := standard(0)
		s.begin, s.each = k, k
		checkNew(t, s, false)
	}
}

// 28.1, 28.2: a new vault has no files, no keys, nothing pruned, no shares, and nothing is open; not even an epoch that opens at 0 ahead of the first reading.
func TestNewIsEmpty(t *testing.T) {
	for _, begin := range []int{-1, 0, 1, 10} {
		s := standard(1, 2)
		s.begin = begin
		x := newPair(t, s)
		x.check(t)
		x.list(t)
		for epoch := range 2 {
			x.emitNone(t, epoch, api.ErrEarly)
			x.do(t, putCommand(epoch, "a", ""), api.ErrNone)
		}
		x.open(t, "a", "", api.ErrNone)
		x.sync()
		x.check(t)
		x.crash(top)
		x.check(t)
	}
}
