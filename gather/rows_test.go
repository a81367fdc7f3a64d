package gather_test

import (
	"math/rand"
	"testing"

	"sandglass/api"
	"sandglass/gather"
	"sandglass/mult"
)

// call is a Put, or, where it is asked, a Key and a Have.
type call struct {
	asked  bool
	dealer int
	s      api.Share
}

// anyCall is of these dealers: most shares are right, of few places.
func anyCall(r *rand.Rand, polys [][]api.Num) call {
	far := farInts()
	c := call{asked: r.Intn(4) == 0, dealer: r.Intn(len(polys))}
	c.s = shareAt(polys[c.dealer], 1+r.Intn(4))
	switch r.Intn(14) {
	case 0:
		c.dealer = []int{-1, len(polys), far[r.Intn(len(far))]}[r.Intn(3)]
	case 1:
		c.s.V = []api.Num{plus(c.s.V, 1), order, greatest, {}}[r.Intn(4)]
	case 2:
		c.s.At = []int{0, -1, 1 + r.Intn(4), last + 1, far[r.Intn(len(far))]}[r.Intn(5)]
	case 3:
		c.dealer = r.Intn(len(polys))
	case 4:
		c.s = shareAt(polys[c.dealer], last-r.Intn(2))
	}
	return c
}

// told is what a call was answered.
type told struct {
	kept bool
	have int
	key  api.Num
	err  api.Errno
}

func ask(g *gather.Gather, c call) told {
	if !c.asked {
		return told{kept: g.Put(c.dealer, c.s)}
	}
	key, err := g.Key()
	return told{have: g.Have(c.dealer), key: key, err: err}
}

func (p *plainGather) ask(c call) told {
	if !c.asked {
		return told{kept: p.put(c.dealer, c.s)}
	}
	key, err := p.key()
	return told{have: p.have(c.dealer), key: key, err: err}
}

// side is a gathering among others, of dealers with these polynomials.
type side struct {
	pair
	polys [][]api.Num
	calls []call
	told  []told
}

func anySide(t *testing.T, r *rand.Rand) *side {
	t.Helper()
	x := &side{}
	faults := r.Intn(3)
	for range 1 + r.Intn(3) {
		x.polys = append(x.polys, short(r, faults+1))
	}
	x.pair = newPair(t, faults, commits(x.polys...))
	return x
}

// 27.1, R5: random calls on several gatherings side by side: each tells what was done to it alone, and the same calls on another one have the same answers again.
func TestRandomRows(t *testing.T) {
	t.Parallel()
	r := rand.New(rand.NewSource(27))
	kept, keys := map[bool]int{}, map[api.Errno]int{}
	for range 25 {
		var l []*side
		for range 2 + r.Intn(3) {
			l = append(l, anySide(t, r))
		}
		// Two that are made of the same.
		l = append(l, &side{pair: newPair(t, l[0].p.t, l[0].p.points), polys: l[0].polys})
		for range 30 * len(l) {
			x := l[r.Intn(len(l))]
			c := anyCall(r, x.polys)
			got, want := ask(x.g, c), x.p.ask(c)
			if got != want {
				t.Fatalf("t %d, %v, behind %v: %v is told %v; want %v", x.p.t, x.polys, x.calls, c, got, want)
			}
			x.calls, x.told = append(x.calls, c), append(x.told, got)
			kept[got.kept]++
			keys[got.err]++
		}
		for _, x := range l {
			x.check(t)
			x.again(t)
		}
	}
	if kept[true] < 300 || kept[false] < 300 || keys[api.ErrShare] < 100 || keys[api.OK] < 100 {
		t.Errorf("kept %v, keys %v", kept, keys)
	}
}

// again does the same calls on a new gathering.
func (x *side) again(t *testing.T) {
	t.Helper()
	g := gather.New(x.p.t, x.p.points)
	for i, c := range x.calls {
		if got := ask(g, c); got != x.told[i] {
			t.Fatalf("t %d, %v: %v is told %v, and was told %v", x.p.t, x.polys, x.calls[:i+1], got, x.told[i])
		}
	}
}

// 27.1: all rows of five Puts of two dealers, of whom the one has a share more than there is room for, held against what is counted by hand.
func TestAllRows(t *testing.T) {
	t.Parallel()
	polys := two()
	points := commits(polys...)
	calls := []call{{dealer: 0, s: shareAt(polys[0], 1)}, {dealer: 0, s: shareAt(polys[0], 2)}, {dealer: 0, s: shareAt(polys[0], 3)}, {dealer: 1, s: shareAt(polys[1], 1)}, {dealer: 1, s: shareAt(polys[1], 2)}}
	for row := range 5 * 5 * 5 * 5 * 5 {
		g := gather.New(1, points)
		var has [5]bool
		var have [3]int
		for left := row + 5*5*5*5*5; left > 1; left /= 5 {
			k := left % 5
			c := calls[k]
			want := !has[k] && have[c.dealer] < 2
			if got := g.Put(c.dealer, c.s); got != want {
				t.Fatalf("row %d, %v: %t", row, c, got)
			}
			if want {
				has[k] = true
				have[c.dealer]++
			}
			checkHave(t, g, have[:]...)
			if have[0]+have[1] == 4 {
				checkKey(t, g, api.Num{7}, api.OK)
			} else {
				checkKey(t, g, api.Num{}, api.ErrShare)
			}
		}
	}
}

// T5: whatever wrong shares come, in whatever order, among t + 1 right ones: the key is the one whose multiple of the base is the epoch's key.
func TestWhateverComes(t *testing.T) {
	t.Parallel()
	r := rand.New(rand.NewSource(5))
	for range 6 {
		faults, dealers := r.Intn(3), 1+r.Intn(3)
		var polys [][]api.Num
		var l []call
		for dealer := range dealers {
			c := long(r, faults+1)
			polys = append(polys, c)
			for _, place := range r.Perm(7)[:faults+1] {
				l = append(l, call{dealer: dealer, s: shareAt(c, place+1)}, call{dealer: r.Intn(dealers), s: api.Share{At: place + 1, V: rest(r)}}, call{dealer: dealer, s: api.Share{At: r.Intn(8), V: valueAt(c, place)}})
			}
		}
		x := newPair(t, faults, commits(polys...))
		r.Shuffle(len(l), func(i, k int) { l[i], l[k] = l[k], l[i] })
		for _, c := range l {
			x.put(t, c.dealer, c.s, x.would(c))
		}
		key, err := x.g.Key()
		if err != api.OK || key != sumOf(polys) || mult.Base(key) != plainPublic(x.p.points) {
			t.Errorf("t %d, %d dealers: %x, %d", faults, dealers, key, err)
		}
	}
}

// would tells what a Put of this would answer, of a plain one that is asked beside.
func (x pair) would(c call) bool {
	p := plainGather{t: x.p.t, points: x.p.points}
	for _, l := range x.p.shares {
		p.shares = append(p.shares, append([]api.Share(nil), l...))
	}
	return p.put(c.dealer, c.s)
}
