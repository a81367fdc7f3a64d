package dkg_test

import (
	"math/rand"
	"slices"
	"testing"

	"sandglass/api"
	"sandglass/dkg"
)

// withMore is the list with items behind its end, which a call could reach.
func withMore[T any](l []T, more ...T) []T { return append(slices.Clone(l), more...)[:len(l)] }

// whole is the list with all that lies behind its end.
func whole[T any](l []T) []T { return l[:cap(l)] }

// roomy are lists that all have items behind their ends, as the list of them has.
func roomy[T any](l [][]T, item T) [][]T {
	all := make([][]T, len(l))
	for i := range l {
		all[i] = withMore(l[i], item, item)
	}
	return withMore(all, []T{item}, nil)
}

// wholes is a copy of all that the lists reach.
func wholes[T any](l [][]T) [][]T {
	all := slices.Clone(whole(l))
	for i := range all {
		all[i] = slices.Clone(whole(all[i]))
	}
	return all
}

// roomyDeal is the deal with items behind the end of each list.
func roomyDeal(d api.Deal) api.Deal {
	return api.Deal{Commits: roomy(d.Commits, base), Values: roomy(d.Values, api.Num{77})}
}

// someDeals are three deals and one of nothing.
func someDeals() []api.Deal {
	return []api.Deal{dealt(4, small(2, 2)), dealt(4, [][]api.Num{{{5}, {3}}, {{7}, {1}}}), {}, dealt(7, small(1, 2))}
}

// lastingList holds that the lists still reach what they reached.
func lastingList[T comparable](t *testing.T, name string, l, ahead [][]T) {
	t.Helper()
	if now := wholes(l); !sameLists(now, ahead) || len(now) != len(ahead) {
		t.Errorf("%s changed what it was given: %v; it was %v", name, now, ahead)
	}
}

// lasting runs the call, and holds that the deal stays.
func lasting(t *testing.T, name string, d api.Deal, call func()) {
	t.Helper()
	commits, values := wholes(d.Commits), wholes(d.Values)
	call()
	lastingList(t, name, d.Commits, commits)
	lastingList(t, name, d.Values, values)
}

// R4: what is handed in is not changed, neither where it is answered nor where it is refused.
func TestHandedInStays(t *testing.T) {
	t.Parallel()
	for _, polys := range [][][]api.Num{nil, small(1, 2), small(4, 2), small(5, 2), small(2, 1), {{{1}, order}}, {{{1}, {2}}, nil}} {
		l := roomy(polys, greatest)
		ahead := wholes(l)
		dkg.Deals(4, 1, l)
		lastingList(t, "Deals", l, ahead)
	}
	for _, acks := range [][][]bool{nil, {{true, true, true}, nil, {true, false, true}}, slices.Repeat([][]bool{acksOf(9, 5, true)}, 9)} {
		l := roomy(acks, true)
		ahead := wholes(l)
		for wrong := -1; wrong < 4; wrong++ {
			dkg.Chosen(wrong, l)
			lastingList(t, "Chosen", l, ahead)
		}
	}
	for _, d := range someDeals() {
		d = roomyDeal(d)
		for node := range 9 {
			lasting(t, "Check", d, func() { dkg.Check(4, 1, d, node) })
		}
	}
}

// R4: neither the deals that Keys and Mine are given nor the list of the chosen.
func TestDealsStay(t *testing.T) {
	for _, chosen := range [][]int{{1, 2}, {2, 1, 9, 4}, {3, 1}, {-1, 2, 2}, {4}, {}} {
		l := someDeals()
		for i := range l {
			l[i] = roomyDeal(l[i])
		}
		behind := roomyDeal(dealt(1, small(1, 1)))
		l = withMore(l, behind)
		chosen = withMore(chosen, 2, 5, 1)
		places := slices.Clone(whole(chosen))
		for _, d := range append(l, behind) {
			lasting(t, "Keys", d, func() { dkg.Keys(l, chosen) })
			for epoch := -1; epoch < 3; epoch++ {
				lasting(t, "Mine", d, func() { dkg.Mine(l, chosen, epoch, 2) })
			}
		}
		if !slices.Equal(whole(chosen), places) {
			t.Errorf("the chosen became %d; they were %d", whole(chosen), places)
		}
		for i, d := range someDeals() {
			if !sameDeal(l[i], d) {
				t.Errorf("deal %d became %v", i+1, l[i])
			}
		}
		if !sameDeal(whole(l)[4], behind) {
			t.Errorf("behind the deals: %v", whole(l)[4])
		}
	}
}

// R4: what lies behind the end of a list has no say.
func TestBehindTheEnd(t *testing.T) {
	polys := small(2, 2)
	d := dealt(4, polys)
	if got, err := dkg.Deals(4, 1, roomy(polys, api.Num{9})); err != api.OK || !sameDeal(got, d) {
		t.Errorf("%v, %d", got, err)
	}
	checkDealsErr(t, 4, 1, roomy(small(2, 1), api.Num{9}))
	checkDealsErr(t, 4, 1, roomy(nil, api.Num{9}))
	for node := 1; node <= 4; node++ {
		checkCheck(t, 4, 1, roomyDeal(d), node, true)
		checkCheck(t, 4, 1, roomyDeal(changed(d, func(d *api.Deal) { d.Values[node-1] = d.Values[node-1][:1] })), node, false)
		checkCheck(t, 4, 1, roomyDeal(changed(d, func(d *api.Deal) { d.Commits[1] = d.Commits[1][:1] })), node, false)
		checkCheck(t, 4, 1, roomyDeal(changed(d, func(d *api.Deal) { d.Commits = d.Commits[:1] })), node, false)
		checkCheck(t, 4, 1, roomyDeal(changed(d, func(d *api.Deal) { d.Values = d.Values[:3] })), node, false)
	}
	l := withMore([]api.Deal{roomyDeal(d), roomyDeal(commitsTo(3))}, commitsTo(100, 100))
	checkKeys(t, l, withMore([]int{1, 2, 3}, 1), times(2+3), times(7))
	checkMine(t, l, withMore([]int{1}, 2), 0, 2, api.Num{12})
	checkMineErr(t, l, []int{1}, 2, 2)
	checkMineErr(t, l, []int{1}, 0, 5)
	checkMineErr(t, l, []int{3}, 0, 1)
}

// R4: the lists of one deal share no room, behind their ends neither.
func TestListsApart(t *testing.T) {
	for _, c := range [][2]int{{1, 0}, {3, 0}, {4, 1}, {7, 2}} {
		for batch := 1; batch <= 4; batch++ {
			want := dealt(c[0], small(batch, c[1]+1))
			got, _ := dkg.Deals(c[0], c[1], small(batch, c[1]+1))
			for i := range got.Commits {
				writeOver(got.Commits[i], api.Point{X: greatest})
				if !sameLists(got.Commits[:i], want.Commits[:i]) || !sameLists(got.Commits[i+1:], want.Commits[i+1:]) || !sameLists(got.Values, want.Values) {
					t.Fatalf("the points of %d have others' room", i)
				}
				copy(got.Commits[i], want.Commits[i])
			}
			for i := range got.Values {
				writeOver(got.Values[i], greatest)
				if !sameLists(got.Values[:i], want.Values[:i]) || !sameLists(got.Values[i+1:], want.Values[i+1:]) || !sameLists(got.Commits, want.Commits) {
					t.Fatalf("the values of %d have others' room", i)
				}
				copy(got.Values[i], want.Values[i])
			}
			writeOver(got.Commits, nil)
			if !sameLists(got.Values, want.Values) {
				t.Error("the values went with the Commits")
			}
		}
	}
}

// writeOver writes over all that a list reaches.
func writeOver[T any](l []T, item T) {
	for i := range whole(l) {
		whole(l)[i] = item
	}
}

// R4: what was dealt stays when what was handed in is written over, and when another answer is; and the other way round.
func TestDealtApart(t *testing.T) {
	polys := small(2, 2)
	want := dealt(4, polys)
	first, _ := dkg.Deals(4, 1, polys)
	second, _ := dkg.Deals(4, 1, polys)
	for i := range second.Commits {
		writeOver(second.Commits[i], base)
	}
	for i := range second.Values {
		writeOver(second.Values[i], greatest)
	}
	if !sameLists(polys, small(2, 2)) {
		t.Errorf("the polynomials became %v", polys)
	}
	for i := range polys {
		writeOver(polys[i], api.Num{})
	}
	if !sameDeal(first, want) {
		t.Errorf("the deal became %v", first)
	}
	third, err := dkg.Deals(4, 1, polys)
	if err != api.OK || !sameDeal(third, dealt(4, [][]api.Num{{{}, {}}, {{}, {}}})) || !sameDeal(first, want) {
		t.Errorf("of 0s: %v, %d", third, err)
	}
}

// R4: keys and values are new: they share nothing with the deals, nor with another answer.
func TestAnswersApart(t *testing.T) {
	l, same := someDeals(), someDeals()
	for _, chosen := range [][]int{{1}, {2}, {1, 2}, {2, 1, 1}} {
		keys, again := dkg.Keys(l, chosen), dkg.Keys(l, chosen)
		wantKeys := plainKeys(same, chosen)
		writeOver(again, api.Point{X: greatest})
		if !slices.Equal(keys, wantKeys) {
			t.Errorf("the keys became %v", keys)
		}
		writeOver(keys, none)
		checkSame(t, l, same)
		checkKeys(t, l, chosen, wantKeys...)
		for epoch := range 2 {
			mine, _ := dkg.Mine(l, chosen, epoch, 3)
			other, _ := dkg.Mine(l, chosen, epoch, 3)
			wantMine, _ := plainMine(same, chosen, epoch, 3)
			writeOver(other, greatest)
			if !slices.Equal(mine, wantMine) {
				t.Errorf("the values became %v", mine)
			}
			writeOver(mine, api.Num{})
			checkSame(t, l, same)
			checkMine(t, l, chosen, epoch, 3, wantMine...)
		}
	}
	writeOver(dkg.Chosen(0, [][]bool{{true}, {true}}), 9)
	checkChosen(t, 0, [][]bool{{true}, {true}}, 1, 2)
	keys := dkg.Keys(l, []int{1})
	mine, _ := dkg.Mine(l, []int{1, 2}, 0, 1)
	for i := range l {
		for k := range l[i].Commits {
			writeOver(l[i].Commits[k], none)
		}
		for k := range l[i].Values {
			writeOver(l[i].Values[k], greatest)
		}
	}
	if !slices.Equal(keys, plainKeys(same, []int{1})) || !slices.Equal(mine, []api.Num{same[0].Values[0][0], same[1].Values[0][0]}) {
		t.Errorf("the answers became %v, %v", keys, mine)
	}
}

func checkSame(t *testing.T, l, same []api.Deal) {
	t.Helper()
	if !slices.EqualFunc(l, same, sameDeal) {
		t.Errorf("the deals became %v", l)
	}
}

// R5: the same arguments have the same answers again, behind other calls, refused ones among them.
func TestSameAgain(t *testing.T) {
	t.Parallel()
	r := rand.New(rand.NewSource(15))
	polys, acks := anyPolys(r, 2, 2), [][]bool{acksOf(4, 3, true), nil, acksOf(4, 4, true)}
	want := dealt(4, polys)
	l := []api.Deal{want, {}, dealt(4, small(3, 2))}
	keys := plainKeys(l, []int{1, 3})
	for range 3 {
		if got, err := checkDeals(t, 4, 1, polys); err != api.OK || !sameDeal(got, want) {
			t.Errorf("%v, %d", got, err)
		}
		checkCheck(t, 4, 1, want, 2, true)
		checkChosen(t, 1, acks, 1, 3)
		checkKeys(t, l, []int{1, 3}, keys...)
		checkMine(t, l, []int{3, 1}, 1, 2, l[2].Values[1][1], want.Values[1][1])
		dkg.Deals(7, 2, small(4, 3))
		dkg.Deals(7, 2, polys)
		dkg.Deals(-1, 3, nil)
		dkg.Check(4, 1, l[2], 9)
		dkg.Check(4, 1, changed(want, func(d *api.Deal) { d.Values[1][1] = greatest }), 2)
		dkg.Chosen(0, [][]bool{acks[0]})
		dkg.Chosen(9, acks)
		dkg.Keys(l, []int{3, 3})
		dkg.Keys(nil, []int{1})
		dkg.Mine(l, []int{1, 2, 3}, 1, 2)
		dkg.Mine(l, []int{3}, 2, 4)
	}
}

// R3: a list that is empty may be nil or of length 0, wherever it stands.
func TestEmpty(t *testing.T) {
	for _, polys := range [][][]api.Num{nil, {}, {nil}, {{}}, {nil, {}}} {
		for _, c := range [][2]int{{1, 0}, {4, 1}, {0, -1}, {1, -1}, {-2, -1}} {
			checkDealsErr(t, c[0], c[1], polys)
		}
	}
	for _, commits := range [][][]api.Point{nil, {}, {nil}, {{}}} {
		for _, values := range [][][]api.Num{nil, {}, {nil}, {{}}} {
			d := api.Deal{Commits: commits, Values: values}
			for _, c := range [][2]int{{1, 0}, {4, 1}, {0, -1}, {1, -1}, {0, 0}} {
				checkCheck(t, c[0], c[1], d, 1, false)
			}
			checkKeys(t, []api.Deal{d}, []int{1}, slices.Repeat([]api.Point{none}, len(commits))...)
			checkMineErr(t, []api.Deal{d}, []int{1}, 0, 1)
			checkMine(t, []api.Deal{d}, nil, 0, 1)
		}
	}
	// A node's values that are an empty list, of another node.
	for _, empty := range [][]api.Num{nil, {}} {
		checkCheck(t, 2, 0, api.Deal{Commits: [][]api.Point{{times(5)}}, Values: [][]api.Num{{{5}}, empty}}, 1, true)
		checkCheck(t, 2, 0, api.Deal{Commits: [][]api.Point{{times(5)}}, Values: [][]api.Num{{{5}}, empty}}, 2, false)
	}
	for _, acks := range [][][]bool{nil, {}, {nil}, {{}, nil}} {
		checkChosen(t, 0, acks)
	}
}

// R1: of any ints every call ends, and does not panic.
func TestAnyInts(t *testing.T) {
	l := someDeals()
	all := append([]int{-1, 0, 1, 2, 3, 4, 7, 8}, farInts()...)
	for _, a := range all {
		for _, b := range all {
			dkg.Deals(a, b, nil)
			dkg.Deals(a, b, [][]api.Num{{}})
			for _, c := range all {
				dkg.Check(a, b, api.Deal{}, c)
				dkg.Check(a, b, l[0], c)
				dkg.Check(a, b, l[2], c)
				dkg.Mine(l, []int{a}, b, c)
				dkg.Mine(l, []int{1, a}, b, c)
				dkg.Keys(l[2:3], []int{a, b, c})
			}
		}
		dkg.Chosen(a, [][]bool{{true, true, true, true, true}, nil})
	}
}
