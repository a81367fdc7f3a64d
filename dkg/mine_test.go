package dkg_test

import (
	"math/rand"
	"slices"
	"testing"

	"sandglass/api"
	"sandglass/dkg"
)

// valued is a deal of n nodes with values of so many epochs, that tell dealer, node and epoch.
func valued(dealer, n, epochs int) api.Deal {
	var d api.Deal
	for node := 1; node <= n; node++ {
		var l []api.Num
		for epoch := range epochs {
			l = append(l, valueOf(dealer, node, epoch))
		}
		d.Values = append(d.Values, l)
	}
	return d
}

func valueOf(dealer, node, epoch int) api.Num {
	return api.Num{uint64(dealer), uint64(node), uint64(epoch), top}
}

// valuesOf are those of these dealers.
func valuesOf(chosen []int, epoch, node int) []api.Num {
	var l []api.Num
	for _, dealer := range chosen {
		l = append(l, valueOf(dealer, node, epoch))
	}
	return l
}

// 25.1: the values of node and epoch, in the order of the chosen dealers, be they rising, falling, or twice there.
func TestMineOrder(t *testing.T) {
	l := []api.Deal{valued(1, 4, 2), valued(2, 4, 2), valued(3, 4, 2), valued(4, 4, 2)}
	for _, chosen := range [][]int{{1}, {4}, {1, 2}, {1, 3}, {2, 4}, {1, 2, 3, 4}, {4, 3, 2, 1}, {3, 1}, {2, 4, 1, 3}, {1, 1}, {2, 1, 2}, {3, 3, 3, 3, 3, 3, 3, 3, 3}, {4, 1, 1, 4}} {
		for node := 1; node <= 4; node++ {
			for epoch := range 2 {
				checkMine(t, l, chosen, epoch, node, valuesOf(chosen, epoch, node)...)
			}
		}
	}
}

// 25.1: epochs begin with 0, dealers and nodes with 1.
func TestMineByHeart(t *testing.T) {
	a := api.Deal{Values: [][]api.Num{{{8}, {8}}, {{11}, {9}}, {{14}, {10}}, {{17}, {11}}}}
	b := api.Deal{Values: [][]api.Num{{{11}, {8}}, {{20}, {12}}, {{29}, {16}}, {{38}, {20}}}}
	l := []api.Deal{a, {}, b}
	checkMine(t, l, []int{1, 3}, 0, 1, api.Num{8}, api.Num{11})
	checkMine(t, l, []int{1, 3}, 1, 1, api.Num{8}, api.Num{8})
	checkMine(t, l, []int{1, 3}, 1, 2, api.Num{9}, api.Num{12})
	checkMine(t, l, []int{3, 1}, 0, 4, api.Num{38}, api.Num{17})
	checkMineErr(t, l, []int{1, 2}, 0, 1)
	checkMineErr(t, l, []int{2}, 0, 1)
}

// 25.1: a dealer who is not there: alone, ahead of others and behind them.
func TestMineDealer(t *testing.T) {
	l := []api.Deal{valued(1, 4, 2), valued(2, 4, 2), valued(3, 4, 2)}
	for _, dealer := range absent() {
		for _, chosen := range [][]int{{dealer}, {dealer, 1}, {1, dealer}, {1, 2, 3, dealer}, {3, dealer, 1}, {dealer, dealer}} {
			checkMineErr(t, l, chosen, 0, 1)
			checkMineErr(t, l, chosen, 1, 4)
		}
	}
	for _, none := range [][]api.Deal{nil, {}, l[:0], {{}}, {{}, {}, {}}, {{Commits: commitsTo(5).Commits}}} {
		for _, dealer := range []int{-1, 0, 1, 2, 3} {
			checkMineErr(t, none, []int{dealer}, 0, 1)
		}
	}
	// What lies behind the list's end is not there.
	checkMineErr(t, l[:2], []int{1, 3}, 0, 1)
}

// 25.1: a node that is not there: below 1, one past the last, far off.
func TestMineNode(t *testing.T) {
	for _, n := range []int{1, 4, 7, 9} {
		l := []api.Deal{valued(1, n, 2), valued(2, n, 2)}
		for _, node := range append([]int{-n, -2, -1, 0, n + 1, n + 2, 2 * n, 20}, farInts()...) {
			for epoch := range 2 {
				checkMineErr(t, l, []int{1}, epoch, node)
				checkMineErr(t, l, []int{2, 1}, epoch, node)
			}
		}
		checkMine(t, l, []int{1, 2}, 1, n, valueOf(1, n, 1), valueOf(2, n, 1))
		checkMine(t, l, []int{1, 2}, 1, 1, valueOf(1, 1, 1), valueOf(2, 1, 1))
		l[0].Values = slices.Concat(l[0].Values, l[0].Values)[:n]
		checkMineErr(t, l, []int{1}, 0, n+1)
	}
}

// 25.1: an epoch that is not there: below 0, one past the last, far off.
func TestMineEpoch(t *testing.T) {
	for _, epochs := range []int{1, 2, 4, 9} {
		l := []api.Deal{valued(1, 4, epochs), valued(2, 4, epochs)}
		for _, epoch := range append([]int{-epochs, -2, -1, epochs, epochs + 1, 2 * epochs, 20}, farInts()...) {
			for _, node := range []int{1, 2, 4} {
				checkMineErr(t, l, []int{1}, epoch, node)
				checkMineErr(t, l, []int{2, 1}, epoch, node)
			}
		}
		checkMine(t, l, []int{1, 2}, epochs-1, 3, valueOf(1, 3, epochs-1), valueOf(2, 3, epochs-1))
		checkMine(t, l, []int{1, 2}, 0, 3, valueOf(1, 3, 0), valueOf(2, 3, 0))
		l[0].Values[1] = append(l[0].Values[1], api.Num{9})[:epochs]
		checkMineErr(t, l, []int{1}, epochs, 2)
	}
}

// 25.1: deals need not be alike: each is asked for its own.
func TestMineUneven(t *testing.T) {
	short := api.Deal{Values: [][]api.Num{{valueOf(2, 1, 0)}, nil, {}, {valueOf(2, 4, 0), valueOf(2, 4, 1)}, {valueOf(2, 5, 0)}}}
	l := []api.Deal{valued(1, 4, 2), short}
	checkMine(t, l, []int{1, 2}, 0, 1, valueOf(1, 1, 0), valueOf(2, 1, 0))
	checkMine(t, l, []int{2, 1}, 1, 4, valueOf(2, 4, 1), valueOf(1, 4, 1))
	checkMine(t, l, []int{1}, 1, 1, valueOf(1, 1, 1))
	checkMine(t, l, []int{2}, 0, 5, valueOf(2, 5, 0))
	checkMineErr(t, l, []int{1, 2}, 1, 1)
	checkMineErr(t, l, []int{2, 1}, 1, 1)
	checkMineErr(t, l, []int{1, 2}, 0, 2)
	checkMineErr(t, l, []int{1, 2}, 0, 3)
	checkMineErr(t, l, []int{2, 1}, 0, 5)
	checkMineErr(t, l, []int{2}, 1, 5)
}

// 25.1: of no chosen dealers none is not there.
func TestMineOfNone(t *testing.T) {
	l := []api.Deal{valued(1, 4, 2)}
	for _, chosen := range [][]int{nil, {}, []int{9}[:0]} {
		for _, deals := range [][]api.Deal{nil, {}, {{}}, l} {
			for _, k := range append([]int{-1, 0, 1, 2, 4, 5}, farInts()...) {
				checkMine(t, deals, chosen, k, 1)
				checkMine(t, deals, chosen, 0, k)
				checkMine(t, deals, chosen, k, k)
			}
		}
	}
}

// 25.1: values are handed out as they are, be they q or more; the Commits have no say.
func TestMineAsTheyAre(t *testing.T) {
	values := [][]api.Num{{greatest, order}, {near(1), {}}}
	for _, commits := range [][][]api.Point{nil, {{}}, {wrong(), wrong()}, commitsTo(1, 2, 3).Commits} {
		l := []api.Deal{{Commits: commits, Values: values}}
		checkMine(t, l, []int{1}, 0, 1, greatest)
		checkMine(t, l, []int{1}, 1, 1, order)
		checkMine(t, l, []int{1, 1}, 0, 2, near(1), near(1))
		checkMine(t, l, []int{1}, 1, 2, api.Num{})
		checkMineErr(t, l, []int{1}, 2, 1)
	}
}

// 25.1: what Deals dealt, of many dealers, is found again.
func TestMineDealt(t *testing.T) {
	r := rand.New(rand.NewSource(10))
	var l []api.Deal
	for range 3 {
		d, err := dkg.Deals(7, 2, anyPolys(r, 2, 3))
		if err != api.OK {
			t.Fatal(err)
		}
		l = append(l, d)
	}
	for node := 1; node <= 7; node++ {
		for epoch := range 2 {
			checkMine(t, l, []int{1, 3}, epoch, node, l[0].Values[node-1][epoch], l[2].Values[node-1][epoch])
		}
	}
}

// 25.1: random rows against the plain count.
func TestMineRandom(t *testing.T) {
	r := rand.New(rand.NewSource(11))
	sizes, refused := map[int]int{}, 0
	for range 8000 {
		l := anyDeals(r)
		chosen, epoch, node := anyChosen(r, len(l)), r.Intn(4)-r.Intn(2), r.Intn(5)
		if want, err := plainMine(l, chosen, epoch, node); err == api.OK {
			sizes[len(want)]++
			checkMine(t, l, chosen, epoch, node, want...)
		} else {
			refused++
			checkMineErr(t, l, chosen, epoch, node)
		}
	}
	if sizes[0] < 500 || sizes[1] < 100 || sizes[2] < 50 || sizes[3] < 25 || refused < 3000 {
		t.Errorf("%v; %d refused", sizes, refused)
	}
}
