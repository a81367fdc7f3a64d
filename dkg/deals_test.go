package dkg_test

import (
	"math"
	"math/big"
	"math/rand"
	"slices"
	"testing"

	"sandglass/api"
	"sandglass/dkg"
)

// small are polynomials with that many coefficients, all less than q.
func small(batch, coefficients int) [][]api.Num {
	polys := make([][]api.Num, batch)
	for i := range polys {
		for k := range coefficients {
			polys[i] = append(polys[i], api.Num{uint64(5*i + 3*k + 2)})
		}
	}
	return polys
}

// 25.1: Deals of what may be, whose values are told by heart.
func TestDealsByHeart(t *testing.T) {
	for _, x := range []struct {
		n, t   int
		polys  [][]api.Num
		values [][]api.Num
	}{
		{1, 0, [][]api.Num{{{5}}}, [][]api.Num{{{5}}}},
		{2, 0, [][]api.Num{{{5}}, {{}}}, [][]api.Num{{{5}, {}}, {{5}, {}}}},
		{4, 1, [][]api.Num{{{5}, {3}}}, [][]api.Num{{{8}}, {{11}}, {{14}}, {{17}}}},
		{4, 1, [][]api.Num{{{1}, {1}}, {{0}, {2}}, {{3}, {0}}, {near(-1), {1}}}, [][]api.Num{{{2}, {2}, {3}, {}}, {{3}, {4}, {3}, {1}}, {{4}, {6}, {3}, {2}}, {{5}, {8}, {3}, {3}}}},
		{7, 2, [][]api.Num{{{1}, {1}, {1}}}, [][]api.Num{{{3}}, {{7}}, {{13}}, {{21}}, {{31}}, {{43}}, {{57}}}},
		{7, 2, [][]api.Num{{{}, near(-1), {2}}}, [][]api.Num{{{1}}, {{6}}, {{15}}, {{28}}, {{45}}, {{66}}, {{91}}}},
	} {
		d, err := checkDeals(t, x.n, x.t, x.polys)
		if err != api.OK || !sameLists(d.Values, x.values) {
			t.Errorf("n %d, t %d, %v: %v, %d", x.n, x.t, x.polys, d.Values, err)
		}
	}
}

// 25.1: Deals of what another program made of the document's words.
func TestDealsMade(t *testing.T) {
	c, points, values := made()
	d, err := dkg.Deals(7, 2, [][]api.Num{{{1}, {}, {}}, c})
	if err != api.OK || len(d.Commits) != 2 || len(d.Values) != 7 || !slices.Equal(d.Commits[1], points) {
		t.Fatalf("%v, %d", d, err)
	}
	for place, v := range values {
		if !slices.Equal(d.Values[place-1], []api.Num{{1}, v}) {
			t.Errorf("at %d: %v; want %v", place, d.Values[place-1], v)
		}
	}
}

// 25.1: each Commit and each node's values, in every committee, of every batch.
func TestDealsAll(t *testing.T) {
	t.Parallel()
	r := rand.New(rand.NewSource(1))
	for _, c := range committees() {
		for batch := 1; batch <= 4; batch++ {
			d, err := checkDeals(t, c[0], c[1], anyPolys(r, batch, c[1]+1))
			if err != api.OK || len(d.Commits) != batch || len(d.Values) != c[0] {
				t.Errorf("n %d, t %d: %d Commits, %d nodes, %d", c[0], c[1], len(d.Commits), len(d.Values), err)
			}
		}
	}
}

// 25.1: n and t: only those that are written out may be, whatever the polynomials are.
func TestDealsCommittee(t *testing.T) {
	t.Parallel()
	taken := 0
	all := slices.Concat([]int{-9, -8, -7, -6, -5, -4, -3, -2, -1}, farInts())
	for k := range 24 {
		all = append(all, k)
	}
	for _, wrong := range all {
		for _, n := range all {
			for coefficients := range 6 {
				polys := small(1, coefficients)
				_, err := dkg.Deals(n, wrong, polys)
				if want := mayBe(n, wrong) && coefficients == wrong+1; want != (err == api.OK) {
					t.Errorf("n %d, t %d, %d coefficients: %d", n, wrong, coefficients, err)
				}
				if err == api.OK {
					taken++
				} else {
					checkDealsErr(t, n, wrong, polys)
				}
			}
			if wrong >= 6 && wrong < 24 {
				checkDealsErr(t, n, wrong, small(1, wrong+1))
			}
		}
	}
	if taken != 12 {
		t.Errorf("%d are taken", taken)
	}
}

// 25.1: t, alone, and n, alone, at the edges: with polynomials to suit, and as many nodes as that needs.
func TestDealsEdges(t *testing.T) {
	for _, x := range []struct {
		n, t int
		want api.Errno
	}{
		{7, -1, api.ErrArg}, {1, -1, api.ErrArg}, {0, -1, api.ErrArg}, {-2, -1, api.ErrArg},
		{1, 0, api.OK}, {7, 0, api.OK}, {0, 0, api.ErrArg}, {8, 0, api.ErrArg}, {-1, 0, api.ErrArg},
		{4, 1, api.OK}, {7, 1, api.OK}, {3, 1, api.ErrArg}, {8, 1, api.ErrArg},
		{7, 2, api.OK}, {6, 2, api.ErrArg}, {8, 2, api.ErrArg},
		{7, 3, api.ErrArg}, {9, 3, api.ErrArg}, {10, 3, api.ErrArg}, {13, 4, api.ErrArg},
		{math.MinInt, 0, api.ErrArg}, {math.MaxInt, 0, api.ErrArg}, {math.MinInt, 2, api.ErrArg}, {math.MaxInt, 2, api.ErrArg},
		{7, math.MinInt, api.ErrArg}, {7, math.MaxInt, api.ErrArg}, {1, math.MinInt, api.ErrArg}, {1, math.MaxInt, api.ErrArg},
		{math.MinInt, math.MinInt, api.ErrArg}, {math.MaxInt, math.MaxInt, api.ErrArg}, {math.MinInt, math.MaxInt, api.ErrArg}, {math.MaxInt, math.MinInt, api.ErrArg},
	} {
		coefficients := 1
		if x.t >= -1 && x.t < 9 {
			coefficients = x.t + 1
		}
		if d, err := checkDeals(t, x.n, x.t, small(2, coefficients)); err != x.want {
			t.Errorf("n %d, t %d: %v, %d", x.n, x.t, d, err)
		}
	}
}

// 25.1: 1 to MaxBatch polynomials.
func TestDealsBatch(t *testing.T) {
	for _, c := range committees() {
		checkDealsErr(t, c[0], c[1], nil)
		checkDealsErr(t, c[0], c[1], [][]api.Num{})
		for _, batch := range []int{1, 4} {
			if d, err := checkDeals(t, c[0], c[1], small(batch, c[1]+1)); err != api.OK || len(d.Commits) != batch {
				t.Errorf("%d polynomials: %d", batch, err)
			}
		}
		for _, batch := range []int{5, 6, 8, 256, 257, 260} {
			checkDealsErr(t, c[0], c[1], small(batch, c[1]+1))
		}
	}
}

// 25.1: t + 1 coefficients of each polynomial, at each place of the batch.
func TestDealsCoefficients(t *testing.T) {
	for _, c := range committees() {
		for batch := 1; batch <= 4; batch++ {
			for i := range batch {
				for _, coefficients := range []int{0, c[1], c[1] + 2, c[1] + 3, 257 + c[1]} {
					polys := small(batch, c[1]+1)
					polys[i] = small(1, coefficients)[0]
					checkDealsErr(t, c[0], c[1], polys)
				}
				polys := small(batch, c[1]+1)
				polys[i] = nil
				checkDealsErr(t, c[0], c[1], polys)
			}
			checkDealsErr(t, c[0], c[1], small(batch, c[1]))
			checkDealsErr(t, c[0], c[1], small(batch, c[1]+2))
		}
	}
	// As many in all as there should be, but not in each.
	checkDealsErr(t, 4, 1, [][]api.Num{{{1}}, {{1}, {2}, {3}}})
	checkDealsErr(t, 7, 2, [][]api.Num{{{1}, {2}, {3}, {4}}, {{1}, {2}}})
}

// 25.1: coefficients less than q, at each place.
func TestDealsRests(t *testing.T) {
	t.Parallel()
	below := []api.Num{near(-1), {top, order[1] - 1, order[2], order[3]}, {top, top, top, order[3] - 1}}
	above := []api.Num{order, near(1), {order[0] + 1, order[1], order[2], order[3]}, {0, order[1] + 1, order[2], order[3]}, {0, 0, 0, order[3] + 1}, {0, 0, 0, top}, greatest}
	for _, a := range below {
		if toBig(a).Cmp(q) >= 0 {
			t.Errorf("%v is not less than q", a)
		}
	}
	for _, a := range above {
		if toBig(a).Cmp(q) < 0 {
			t.Errorf("%v is less than q", a)
		}
	}
	for _, c := range [][2]int{{1, 0}, {4, 1}, {7, 2}} {
		for _, batch := range []int{1, 2, 4} {
			for i := range batch {
				for k := range c[1] + 1 {
					polys := small(batch, c[1]+1)
					for _, a := range above {
						polys[i][k] = a
						checkDealsErr(t, c[0], c[1], polys)
					}
					for _, a := range below {
						polys[i][k] = a
						if d, err := checkDeals(t, c[0], c[1], polys); err != api.OK {
							t.Errorf("%v: %v, %d", polys, d, err)
						}
					}
				}
			}
		}
	}
}

// 25.1, R2: several things are wrong, in any way, and the answer is the same.
func TestDealsSeveral(t *testing.T) {
	above := [][]api.Num{{greatest}, {order, near(1)}, {{}, order, {}}}
	for _, n := range []int{-1, 0, 3, 6, 7, 8, math.MaxInt} {
		for _, wrong := range []int{-1, 0, 1, 2, 3, math.MaxInt, math.MinInt} {
			for _, polys := range [][][]api.Num{above, above[:1], above[1:2], above[2:], {nil}, {nil, nil, nil, nil, nil}, {{}, {greatest}}} {
				checkDealsErr(t, n, wrong, polys)
			}
		}
	}
}

// 25.1: random rows of what may be, and of what may not, against the plain count.
func TestDealsRandom(t *testing.T) {
	t.Parallel()
	r := rand.New(rand.NewSource(2))
	taken, refused := 0, 0
	for range 1500 {
		c := committees()[r.Intn(12)]
		n, wrong, batch, coefficients := c[0], c[1], 1+r.Intn(2), c[1]+1
		switch r.Intn(12) {
		case 0:
			n += r.Intn(5) - 2
		case 1:
			wrong += r.Intn(3) - 1
		case 2:
			batch = r.Intn(7)
		case 3:
			coefficients = r.Intn(5)
		}
		polys := anyPolys(r, batch, coefficients)
		if batch > 0 && coefficients > 0 {
			switch i := r.Intn(batch); r.Intn(10) {
			case 0:
				polys[i][r.Intn(coefficients)] = fromBig(new(big.Int).Add(q, big.NewInt(r.Int63n(3)-1)))
			case 1:
				polys[i] = polys[i][:r.Intn(coefficients)]
			case 2:
				polys[i] = append(polys[i], rest(r))
			}
		}
		// What is not refused costs much: few of it will do.
		if _, err := plainDeals(n, wrong, polys); err == api.OK && taken == 80 {
			continue
		}
		if _, err := checkDeals(t, n, wrong, polys); err == api.OK {
			taken++
		} else {
			refused++
		}
	}
	if taken < 80 || refused < 500 {
		t.Errorf("%d taken, %d refused", taken, refused)
	}
}
