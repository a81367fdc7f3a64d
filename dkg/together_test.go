package dkg_test

import (
	"math/big"
	"math/rand"
	"slices"
	"testing"

	"sandglass/api"
	"sandglass/dkg"
	"sandglass/mult"
	"sandglass/shamir"
)

func sumOf(l []api.Num) api.Num {
	sum := new(big.Int)
	for _, a := range l {
		sum.Add(sum, toBig(a))
	}
	return residue(sum)
}

// round is what a committee does: each node deals, those in harmed give a value that is wrong to some, and all check and ack.
type round struct {
	n, t, epochs int
	polys        [][][]api.Num
	deals        []api.Deal
	acks         [][]bool
	chosen       []int
}

// newRound has as many wrong dealers as there may be; each of them harms some nodes.
func newRound(t *testing.T, r *rand.Rand, n, wrong, epochs int) round {
	t.Helper()
	x := round{n: n, t: wrong, epochs: epochs}
	for range n {
		polys := anyPolys(r, epochs, wrong+1)
		d, err := dkg.Deals(n, wrong, polys)
		if err != api.OK {
			t.Fatal(err)
		}
		x.polys, x.deals = append(x.polys, polys), append(x.deals, d)
	}
	harmed := make([][]int, n)
	for _, dealer := range r.Perm(n)[:wrong] {
		harmed[dealer] = r.Perm(n)[:1+r.Intn(n)]
		for _, node := range harmed[dealer] {
			epoch := r.Intn(epochs)
			x.deals[dealer].Values[node][epoch] = plus(x.deals[dealer].Values[node][epoch], 1)
		}
	}
	var want []int
	for dealer, d := range x.deals {
		acks := make([]bool, n)
		for node := range acks {
			acks[node] = dkg.Check(n, wrong, d, node+1)
			if acks[node] == slices.Contains(harmed[dealer], node) {
				t.Errorf("n %d, t %d: node %d acks dealer %d: %t", n, wrong, node+1, dealer+1, acks[node])
			}
		}
		x.acks = append(x.acks, acks)
		if n-len(harmed[dealer]) >= 2*wrong+1 {
			want = append(want, dealer+1)
		}
	}
	checkChosen(t, wrong, x.acks, want...)
	x.chosen = want
	return x
}

// right tells whether the node has the right values of all chosen dealers.
func (x round) right(node int) bool {
	return !slices.ContainsFunc(x.chosen, func(dealer int) bool { return !x.acks[dealer-1][node-1] })
}

// secret is the sum of the chosen dealers' first coefficients.
func (x round) secret(epoch int) api.Num {
	var l []api.Num
	for _, dealer := range x.chosen {
		l = append(l, x.polys[dealer-1][epoch][0])
	}
	return sumOf(l)
}

// shares are the sums of what the right nodes have.
func (x round) shares(t *testing.T, epoch int) []api.Share {
	t.Helper()
	var l []api.Share
	for node := 1; node <= x.n; node++ {
		values, err := dkg.Mine(x.deals, x.chosen, epoch, node)
		if err != api.OK || len(values) != len(x.chosen) {
			t.Fatalf("node %d: %v, %d", node, values, err)
		}
		if x.right(node) {
			l = append(l, api.Share{At: node, V: sumOf(values)})
		}
	}
	return l
}

// T5: any t + 1 right nodes' sums join to the sum of the first coefficients, whose multiple of the base is the key.
func TestTogether(t *testing.T) {
	t.Parallel()
	r := rand.New(rand.NewSource(12))
	joined, left := 0, 0
	for _, c := range committees() {
		for epochs := 1; epochs <= 1+min(c[1], 1); epochs++ {
			x := newRound(t, r, c[0], c[1], epochs)
			if len(x.chosen) < c[0]-c[1] {
				t.Fatalf("n %d, t %d: %d are chosen", c[0], c[1], x.chosen)
			}
			left += c[0] - len(x.chosen)
			joined += x.join(t)
		}
	}
	if joined < 50 || left < 2 {
		t.Errorf("%d joined, %d dealers left out", joined, left)
	}
}

// join joins of each epoch what t + 1 nodes have, in all rows of them, and answers how many these are.
func (x round) join(t *testing.T) int {
	t.Helper()
	keys, joined := dkg.Keys(x.deals, x.chosen), 0
	if len(keys) != x.epochs {
		t.Fatalf("%d keys", len(keys))
	}
	for epoch, key := range keys {
		secret := x.secret(epoch)
		if key != plainBase(secret) || key != mult.Base(secret) {
			t.Errorf("n %d, t %d: the key is %v", x.n, x.t, key)
		}
		shares := x.shares(t, epoch)
		for i := 0; i+x.t < len(shares); i++ {
			some := shares[i : i+x.t+1]
			if got, err := shamir.Join(some); got != secret || err != api.OK {
				t.Errorf("n %d, t %d: %v join to %v, %d; want %v", x.n, x.t, some, got, err, secret)
			}
			joined++
		}
	}
	return joined
}

// T5: also of dealers who are chosen twice, or not rising: values and keys are of the same dealers.
func TestTogetherTwice(t *testing.T) {
	t.Parallel()
	r := rand.New(rand.NewSource(13))
	var x round
	x.n, x.t, x.epochs = 4, 1, 2
	for range 3 {
		polys := anyPolys(r, 2, 2)
		x.polys, x.deals, x.acks = append(x.polys, polys), append(x.deals, dealt(4, polys)), append(x.acks, acksOf(4, 4, false))
	}
	for _, chosen := range [][]int{{3, 1}, {2, 2}, {1, 3, 1, 2, 1}, {3, 3, 3}} {
		x.chosen = chosen
		for epoch, key := range dkg.Keys(x.deals, chosen) {
			got, err := shamir.Join(x.shares(t, epoch)[1:3])
			if got != x.secret(epoch) || err != api.OK || key != plainBase(got) {
				t.Errorf("%d: %v, %d; the key is %v", chosen, got, err, key)
			}
		}
	}
}

// T5: a key of dealers whose first coefficients make 0 is none, and so it joins.
func TestTogetherNone(t *testing.T) {
	a, _ := dkg.Deals(4, 1, [][]api.Num{{{5}, {3}}})
	b, _ := dkg.Deals(4, 1, [][]api.Num{{near(-5), {1}}})
	l := []api.Deal{a, b}
	checkKeys(t, l, []int{1, 2}, none)
	var shares []api.Share
	for node := 2; node <= 3; node++ {
		values, err := dkg.Mine(l, []int{1, 2}, 0, node)
		if err != api.OK {
			t.Fatal(err)
		}
		shares = append(shares, api.Share{At: node, V: sumOf(values)})
	}
	if got, err := shamir.Join(shares); got != (api.Num{}) || err != api.OK {
		t.Errorf("%v, %d", got, err)
	}
}

// 25.1: rows of random rounds against the plain count, each call of them.
func TestRounds(t *testing.T) {
	t.Parallel()
	r := rand.New(rand.NewSource(14))
	for range 12 {
		c := committees()[r.Intn(12)]
		n, wrong, epochs := c[0], c[1], 1+r.Intn(2)
		var l []api.Deal
		for range 1 + r.Intn(3) {
			d, _ := checkDeals(t, n, wrong, anyPolys(r, epochs, wrong+1))
			for range r.Intn(3) {
				anyHarm(r, &d, n, wrong, 1)
			}
			l = append(l, d)
		}
		acks := make([][]bool, len(l))
		for i, d := range l {
			for node := 1; node <= n; node++ {
				is := plainCheck(n, wrong, d, node)
				checkCheck(t, n, wrong, d, node, is)
				acks[i] = append(acks[i], is)
			}
		}
		chosen := plainChosen(wrong, acks)
		checkChosen(t, wrong, acks, chosen...)
		checkKeys(t, l, chosen, plainKeys(l, chosen)...)
		for node := 0; node <= n+1; node++ {
			for epoch := range epochs + 1 {
				if values, err := plainMine(l, chosen, epoch, node); err == api.OK {
					checkMine(t, l, chosen, epoch, node, values...)
				} else {
					checkMineErr(t, l, chosen, epoch, node)
				}
			}
		}
	}
}
