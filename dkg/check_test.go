package dkg_test

import (
	"math"
	"math/big"
	"math/rand"
	"slices"
	"testing"

	"sandglass/api"
	"sandglass/dkg"
)

// 25.1: what Deals dealt is true at every node, in every committee, of every batch.
func TestCheckDealt(t *testing.T) {
	t.Parallel()
	r := rand.New(rand.NewSource(3))
	for _, c := range committees() {
		for batch := 1; batch <= 4; batch++ {
			d, err := dkg.Deals(c[0], c[1], anyPolys(r, batch, c[1]+1))
			if err != api.OK {
				t.Fatal(err)
			}
			for node := 1; node <= c[0]; node++ {
				checkCheck(t, c[0], c[1], d, node, true)
			}
		}
	}
}

// 25.1: what another program made of the document's words.
func TestCheckMade(t *testing.T) {
	_, points, values := made()
	for place, v := range values {
		d := api.Deal{Commits: [][]api.Point{points}, Values: make([][]api.Num, 7)}
		d.Values[place-1] = []api.Num{v}
		for node := 1; node <= 7; node++ {
			checkCheck(t, 7, 2, d, node, node == place)
		}
	}
}

// 25.1: the node is 1 to n.
func TestCheckNode(t *testing.T) {
	t.Parallel()
	for _, c := range committees() {
		n := c[0]
		d := dealt(n, small(1, c[1]+1))
		checkCheck(t, n, c[1], d, 1, true)
		checkCheck(t, n, c[1], d, n, true)
		for _, node := range append([]int{-n, -2, -1, 0, n + 1, n + 2, 2 * n, 8, 9}, farInts()...) {
			if node < 1 || node > n {
				checkCheck(t, n, c[1], d, node, false)
			}
		}
	}
}

// 25.1: of a polynomial that is the same everywhere no node is another one, but those that are not there.
func TestCheckNodeFlat(t *testing.T) {
	d := dealt(4, [][]api.Num{{{5}, {}}})
	for node := -6; node <= 12; node++ {
		checkCheck(t, 4, 1, d, node, node >= 1 && node <= 4)
	}
	// The values of a node that is not there, behind the list's end, are none.
	d.Values = append(d.Values, []api.Num{{5}}, []api.Num{{5}})[:4]
	checkCheck(t, 4, 1, d, 5, false)
	checkCheck(t, 4, 1, d, 6, false)
}

// 25.1: n and t: only those that are written out may be, of deals that suit them.
func TestCheckCommittee(t *testing.T) {
	t.Parallel()
	taken := 0
	for n := range 20 {
		for wrong := -1; wrong < 7; wrong++ {
			d := dealt(n, small(1, wrong+1))
			for _, node := range []int{1, n} {
				want := mayBe(n, wrong)
				checkCheck(t, n, wrong, d, node, want)
				if want {
					taken++
				}
			}
		}
	}
	if taken != 24 {
		t.Errorf("%d are taken", taken)
	}
}

// 25.1: n, alone, and t, alone, of a deal that is true with others.
func TestCheckCommitteeAlone(t *testing.T) {
	t.Parallel()
	for _, c := range committees() {
		d := dealt(c[0], small(2, c[1]+1))
		checkCheck(t, c[0], c[1], d, 1, true)
		for _, k := range append([]int{-2, -1, 0, 1, 2, 3, 4, 5, 6, 7, 8, 9, 10, 13}, farInts()...) {
			if k != c[0] {
				checkCheck(t, k, c[1], d, 1, false)
			}
			if k != c[1] {
				checkCheck(t, c[0], k, d, 1, false)
			}
			checkCheck(t, k, k, d, 1, false)
		}
	}
}

// 25.1: a deal of a committee that may be is none of another one, though n or t is the same.
func TestCheckOtherCommittee(t *testing.T) {
	for _, c := range committees() {
		d := dealt(c[0], small(1, c[1]+1))
		for _, other := range committees() {
			checkCheck(t, other[0], other[1], d, 1, other == c)
		}
	}
}

// 25.1: 1 to MaxBatch Commits, of deals that are true but for that.
func TestCheckBatch(t *testing.T) {
	t.Parallel()
	for _, c := range committees() {
		for _, batch := range []int{0, 1, 4, 5, 6, 8, 256, 257, 260} {
			d := dealt(c[0], small(batch, c[1]+1))
			checkCheck(t, c[0], c[1], d, c[0], batch == 1 || batch == 4)
		}
		// No Commits, in every way in which a list is empty.
		for _, d := range []api.Deal{{}, {Values: make([][]api.Num, c[0])}, {Commits: [][]api.Point{}, Values: dealt(c[0], [][]api.Num{}).Values}} {
			checkCheck(t, c[0], c[1], d, 1, false)
		}
	}
}

// 25.1: t + 1 points of each of the Commits, at each place of the batch, though chapter 14 verifies the values.
func TestCheckPoints(t *testing.T) {
	t.Parallel()
	for _, c := range committees() {
		n, wrong := c[0], c[1]
		for batch := 1; batch <= 4; batch += 3 {
			// The last coefficient is 0: its point may go, and none may stand behind it.
			polys := small(batch, wrong)
			for i := range polys {
				polys[i] = append(polys[i], api.Num{})
			}
			d := dealt(n, polys)
			checkCheck(t, n, wrong, d, n, true)
			for i := range batch {
				for _, points := range [][]api.Point{nil, {}, d.Commits[i][:wrong], append(slices.Clone(d.Commits[i]), none), append(slices.Clone(d.Commits[i]), none, none), slices.Concat(d.Commits[i], make([]api.Point, 256))} {
					checkCheck(t, n, wrong, changed(d, func(d *api.Deal) { d.Commits[i] = points }), n, false)
				}
			}
		}
	}
}

// 25.1: n lists of Values, of which the node's are right.
func TestCheckNodes(t *testing.T) {
	for _, c := range committees() {
		n, wrong := c[0], c[1]
		polys := small(2, wrong+1)
		for _, nodes := range []int{0, 1, n - 1, n, n + 1, n + 2, 7, 8, n + 256} {
			d := dealt(nodes, polys)
			checkCheck(t, n, wrong, d, 1, nodes == n)
			checkCheck(t, n, wrong, d, n, nodes == n)
		}
		d := dealt(n, polys)
		for _, values := range [][][]api.Num{nil, {}, d.Values[:n-1], append(slices.Clone(d.Values), nil), append(slices.Clone(d.Values), d.Values[0])} {
			for node := 1; node <= n; node++ {
				checkCheck(t, n, wrong, api.Deal{Commits: d.Commits, Values: values}, node, false)
			}
		}
	}
}

// 25.1: the node's values are as many as the Commits; another node's may be as they like.
func TestCheckValues(t *testing.T) {
	t.Parallel()
	for _, batch := range []int{1, 2, 4} {
		d := dealt(4, small(batch, 2))
		for node := 1; node <= 4; node++ {
			mine := d.Values[node-1]
			lists := [][]api.Num{nil, {}, mine[:batch-1], append(slices.Clone(mine), api.Num{}), append(slices.Clone(mine), mine...), slices.Concat(mine, make([]api.Num, 256))}
			if batch > 1 {
				lists = append(lists, mine[1:], mine[:1])
			}
			for _, l := range lists {
				other := changed(d, func(d *api.Deal) { d.Values[node-1] = l })
				checkCheck(t, 4, 1, other, node, false)
				checkCheck(t, 4, 1, other, node%4+1, true)
			}
			for _, l := range [][]api.Num{nil, make([]api.Num, batch), {greatest}, d.Values[node%4]} {
				other := changed(d, func(d *api.Deal) {
					for i := range d.Values {
						if i != node-1 {
							d.Values[i] = l
						}
					}
				})
				checkCheck(t, 4, 1, other, node, true)
			}
		}
	}
}

// 25.1: a value altered in any of its bits, at each place of the batch.
func TestCheckBits(t *testing.T) {
	t.Parallel()
	_, points, values := made()
	d := api.Deal{Commits: [][]api.Point{points}, Values: [][]api.Num{{values[1]}, {values[2]}, {values[3]}, nil, nil, nil, {values[7]}}}
	for bit := 0; bit < 256; bit += 5 {
		checkCheck(t, 7, 2, changed(d, func(d *api.Deal) { d.Values[6][0][bit/64] ^= 1 << (bit % 64) }), 7, false)
	}
	d = dealt(4, small(4, 2))
	for i := range 4 {
		for node := 1; node <= 4; node++ {
			for _, bit := range []int{0, 1, 2, 31, 32, 63} {
				other := changed(d, func(d *api.Deal) { d.Values[node-1][i][0] ^= 1 << bit })
				checkCheck(t, 4, 1, other, node, false)
				checkCheck(t, 4, 1, other, node%4+1, true)
			}
			for _, bit := range []int{64, 128, 255} {
				other := changed(d, func(d *api.Deal) { d.Values[node-1][i][bit/64] ^= 1 << (bit % 64) })
				checkCheck(t, 4, 1, other, node, false)
			}
		}
	}
}

// 25.1: other values: such as are q or more, though the rest is right, another node's, and another epoch's.
func TestCheckOtherValues(t *testing.T) {
	polys := [][]api.Num{{{5}, {3}}, {{}, {}}, {near(-4), {1}}}
	d := dealt(4, polys)
	for node := 1; node <= 4; node++ {
		checkCheck(t, 4, 1, d, node, true)
		for i, v := range d.Values[node-1] {
			others := []api.Num{plus(v, 1), plus(v, -1), fromBig(new(big.Int).Add(q, toBig(v))), greatest}
			if i != 1 {
				others = append(others, d.Values[node%4][i], residue(new(big.Int).Neg(toBig(v))), d.Values[node-1][1])
			}
			for _, other := range others {
				if other != v {
					checkCheck(t, 4, 1, changed(d, func(d *api.Deal) { d.Values[node-1][i] = other }), node, false)
				}
			}
		}
		checkCheck(t, 4, 1, changed(d, func(d *api.Deal) { slices.Reverse(d.Values[node-1]) }), node, false)
		checkCheck(t, 4, 1, changed(d, func(d *api.Deal) { d.Values[node-1] = d.Values[node%4] }), node, false)
	}
	// Of node 4 the last is 0, whose q is no rest.
	if v := d.Values[3][2]; v != (api.Num{}) {
		t.Errorf("the value is %v", v)
	}
	checkCheck(t, 4, 1, changed(d, func(d *api.Deal) { d.Values[3][2] = order }), 4, false)
}

// 25.1: another point, at each place: an altered one, a pair of numbers that is none, and none.
func TestCheckOtherPoints(t *testing.T) {
	t.Parallel()
	d := dealt(7, [][]api.Num{{{5}, {3}, {2}}, {{9}, near64(), {1}}})
	for i := range 2 {
		for k := range 3 {
			right := d.Commits[i][k]
			others := append(wrong(), none, base, opposite(right), plainAdd(right, right), d.Commits[1-i][k], d.Commits[i][(k+1)%3], api.Point{X: right.Y, Y: right.X}, api.Point{X: right.X, Y: right.Y, None: true})
			for bit := range 8 {
				altered := right
				altered.X[bit/2] ^= 1 << (40 * (bit % 2))
				others = append(others, altered)
				altered = right
				altered.Y[bit/2] ^= 1 << (40 * (bit % 2))
				others = append(others, altered)
			}
			for _, p := range others {
				if p != right {
					other := changed(d, func(d *api.Deal) { d.Commits[i][k] = p })
					checkCheck(t, 7, 2, other, 1+k, false)
				}
			}
		}
	}
	checkCheck(t, 7, 2, changed(d, func(d *api.Deal) { slices.Reverse(d.Commits) }), 2, false)
	checkCheck(t, 7, 2, changed(d, func(d *api.Deal) { slices.Reverse(d.Commits[1]) }), 2, false)
}

func near64() api.Num { return api.Num{0, 1} }

// 25.1: none, and a pair of numbers that is no point, count as chapter 14 counts them: as 0 times the base.
func TestCheckNone(t *testing.T) {
	d := dealt(4, [][]api.Num{{{}, {3}}, {{7}, {}}})
	if d.Commits[0][0] != none || d.Commits[1][1] != none {
		t.Fatal("0 times the base is not none")
	}
	for _, p := range append(wrong(), none) {
		other := changed(d, func(d *api.Deal) { d.Commits[0][0], d.Commits[1][1] = p, p })
		for node := 1; node <= 4; node++ {
			checkCheck(t, 4, 1, other, node, true)
		}
		other = changed(other, func(d *api.Deal) { d.Commits[0][1] = p })
		checkCheck(t, 4, 1, other, 2, false)
		other.Values[1][0] = api.Num{}
		checkCheck(t, 4, 1, other, 2, true)
		other.Values[1][0] = order
		checkCheck(t, 4, 1, other, 2, false)
	}
}

// 25.1: two altered values of a node are no better than one, and the last of a batch is looked at like the first.
func TestCheckEachEpoch(t *testing.T) {
	d := dealt(4, small(4, 2))
	for i := range 4 {
		for k := range 4 {
			other := changed(d, func(d *api.Deal) {
				d.Values[2][i] = plus(d.Values[2][i], 1)
				d.Values[2][k] = plus(d.Values[2][k], -1)
			})
			checkCheck(t, 4, 1, other, 3, i == k)
			checkCheck(t, 4, 1, other, 4, true)
		}
	}
}

// R1: of a deal of many empty lists, and of anything, Check ends.
func TestCheckAnything(t *testing.T) {
	deals := []api.Deal{{}, {Commits: make([][]api.Point, 4)}, {Values: make([][]api.Num, 4)}, {Commits: make([][]api.Point, 1), Values: make([][]api.Num, 4)}, {Commits: [][]api.Point{{{}, {}}}, Values: make([][]api.Num, 4)}, {Commits: make([][]api.Point, 4), Values: [][]api.Num{{{}, {}, {}, {}}, nil, nil, nil}}, {Commits: [][]api.Point{nil}, Values: [][]api.Num{{{}}}}}
	for _, d := range deals {
		for _, n := range []int{math.MinInt, -1, 0, 1, 4, 7, math.MaxInt} {
			for _, wrong := range []int{math.MinInt, -1, 0, 1, 2, math.MaxInt} {
				for _, node := range []int{math.MinInt, -1, 0, 1, 2, 4, 5, math.MaxInt} {
					checkCheck(t, n, wrong, d, node, false)
				}
			}
		}
	}
}

// 25.1: random deals with up to two things done to them, against the plain count.
func TestCheckRandom(t *testing.T) {
	t.Parallel()
	r := rand.New(rand.NewSource(6))
	counts := map[bool]int{}
	for range 500 {
		c := committees()[r.Intn(12)]
		n, wrong, node := c[0], c[1], 1+r.Intn(c[0])
		d := dealt(n, anyPolys(r, 1+r.Intn(2), wrong+1))
		for range r.Intn(3) {
			n, wrong, node = anyHarm(r, &d, n, wrong, node)
		}
		want := plainCheck(n, wrong, d, node)
		counts[want]++
		checkCheck(t, n, wrong, d, node, want)
	}
	if counts[true] < 100 || counts[false] < 150 {
		t.Errorf("%v", counts)
	}
}

// anyHarm does one thing to a deal or to what is asked of it.
func anyHarm(r *rand.Rand, d *api.Deal, n, wrong, node int) (int, int, int) {
	some := func(n int) int { return r.Intn(max(n, 1)) }
	i, k := some(len(d.Commits)), some(len(d.Values))
	switch r.Intn(12) {
	case 0:
		n += r.Intn(3) - 1
	case 1:
		wrong += r.Intn(3) - 1
	case 2:
		node = r.Intn(n + 3)
	case 3:
		if len(d.Commits) > i && len(d.Commits[i]) > 0 {
			d.Commits[i][some(len(d.Commits[i]))] = append(wrongPoints(), plainBase(rest(r)))[r.Intn(4)]
		}
	case 4:
		if len(d.Commits) > i {
			d.Commits[i] = append(d.Commits[i], none)
		}
	case 5:
		if len(d.Commits) > i && len(d.Commits[i]) > 0 {
			d.Commits[i] = d.Commits[i][1:]
		}
	case 6, 7, 8:
		if len(d.Values) > k && len(d.Values[k]) > 0 {
			d.Values[k][some(len(d.Values[k]))] = rest(r)
		}
	case 9:
		if len(d.Values) > k {
			d.Values[k] = append(d.Values[k], rest(r))
		}
	case 10:
		d.Values = append(d.Values, nil)
	case 11:
		if len(d.Values) > k {
			d.Values = slices.Delete(d.Values, k, k+1)
		}
	}
	return n, wrong, node
}

func wrongPoints() []api.Point { return []api.Point{none, {}, {X: api.Num{1}}} }
