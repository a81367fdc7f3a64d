package vault_test

import (
	"fmt"
	"math/rand"
	"slices"
	"testing"

	"sandglass/api"
	"sandglass/vault"
)

// The kinds of calls.
const (
	doCall = iota
	tickCall
	emitCall
	takeCall
	openCall
	listCall
	syncCall
	crashCall
)

// call is one, with what it is given.
type call struct {
	kind   int
	c      api.Command
	n      int // what is read, or an epoch
	dealer int
	s      api.Share
	name   string
	keep   uint64
}

// String is without the bytes of a body.
func (c call) String() string {
	return fmt.Sprintf("{kind %d: command %d, epoch %d, %q, %d bytes; number %d; dealer %d, %x at %d; %q; keep %#x}", c.kind, c.c.Kind, c.c.Epoch, short(c.c.Name), len(c.c.Body), c.n, c.dealer, c.s.V, c.s.At, c.name, c.keep)
}

// told is what a call was answered.
type told struct {
	err    api.Errno
	is     bool
	text   string
	shares []api.Share
	names  []string
}

func (a told) String() string {
	return fmt.Sprintf("{%d, %t, %q, %v, %q}", a.err, a.is, a.text, a.shares, a.names)
}

func (a told) same(b told) bool {
	return a.err == b.err && a.is == b.is && a.text == b.text && slices.Equal(a.shares, b.shares) && slices.Equal(a.names, b.names)
}

func ask(v *vault.Vault, c call) told {
	var a told
	switch c.kind {
	case doCall:
		a.err = v.Do(c.c)
	case tickCall:
		v.Tick(c.n)
	case emitCall:
		a.shares, a.err = v.Emit(c.n)
	case takeCall:
		a.is = v.Take(c.n, c.dealer, c.s)
	case openCall:
		a.text, a.err = v.Open(c.name)
	case listCall:
		a.names = v.List()
	case syncCall:
		v.Sync()
	case crashCall:
		v.Crash(c.keep)
	}
	return a
}

func (p *plainVault) ask(c call) told {
	var a told
	switch c.kind {
	case doCall:
		a.err = p.do(c.c)
	case tickCall:
		p.tick(c.n)
	case emitCall:
		a.shares, a.err = p.emit(c.n)
	case takeCall:
		a.is = p.take(c.n, c.dealer, c.s)
	case openCall:
		a.text, a.err = p.open(c.name)
	case listCall:
		a.names = p.list()
	case syncCall:
		p.sync()
	case crashCall:
		p.crash(c.keep)
	}
	return a
}

// side is a vault among others, of dealers with these polynomials.
type side struct {
	pair
	dealers [][][]api.Num // the chosen ones'
	calls   []call
	told    []told
}

// anySide is of a small committee, with some of its dealers chosen.
func anySide(t *testing.T, r *rand.Rand) *side {
	t.Helper()
	committee := [][2]int{{1, 0}, {3, 0}, {4, 1}, {7, 2}}[r.Intn(4)]
	s := setting{n: committee[0], t: committee[1], begin: r.Intn(20), each: r.Intn(8)}
	s.me = 1 + r.Intn(s.n)
	x := &side{}
	epochs := 1 + r.Intn(3)
	for dealer := 1; dealer <= 3; dealer++ {
		var polys [][]api.Num
		for range epochs {
			var c []api.Num
			for range s.t + 1 {
				c = append(c, api.Num{uint64(1 + r.Intn(1000))})
			}
			polys = append(polys, c)
		}
		s.deals = append(s.deals, dealt(s.n, polys))
		if r.Intn(2) == 0 || dealer == 3 && len(s.chosen) == 0 {
			s.chosen = append(s.chosen, dealer)
			x.dealers = append(x.dealers, polys)
		}
	}
	x.pair = newPair(t, s)
	return x
}

// secret is what the chosen dealers' polynomials make of an epoch of the batch.
func (x *side) secret(epoch int) uint64 {
	var sum uint64
	for _, polys := range x.dealers {
		sum += polys[epoch][0][0]
	}
	return sum
}

// anyCommand is mostly one that may be, of few names and epochs.
func (x *side) anyCommand(r *rand.Rand) api.Command {
	epochs := len(x.dealers[0])
	epoch := r.Intn(epochs + 1)
	name := string([]byte{byte('a' + r.Intn(6))})
	switch k := r.Intn(20); {
	case k < 6:
		return keyCommand(epoch, keyOf(1+uint64(epoch)))
	case k < 12:
		body := mixed([]int{0, 10, 60, 1000, 4070, 4090}[r.Intn(6)], r.Uint64())
		return putCommand(epoch, name, body)
	case k < 17:
		wrong := uint64(r.Intn(4) / 3)
		return putCommand(epoch, name, sealed(x.secret(epoch%epochs)+wrong, name+" of a row"))
	case k < 18:
		return pruneCommand(r.Intn(r.Intn(epochs+1) + 1))
	}
	far := farInts()
	wrong := []api.Command{keyCommand(epoch, noKey), pruneCommand(-1), putCommand(epoch, "", ""), {Kind: far[r.Intn(len(far))], Epoch: epoch}, putCommand(far[r.Intn(len(far))], name, ""), putCommand(epoch, name, zeros[:4097])}
	return wrong[r.Intn(len(wrong))]
}

// anyTake is mostly a right share, of few places.
func (x *side) anyTake(r *rand.Rand) call {
	c := call{kind: takeCall, n: r.Intn(len(x.dealers[0])), dealer: r.Intn(len(x.dealers))}
	c.s = shareAt(x.dealers[c.dealer][c.n], 1+r.Intn(4))
	switch r.Intn(10) {
	case 0:
		c.s.V = plus(c.s.V, 1)
	case 1:
		c.n = r.Intn(6) - 1
	case 2:
		c.dealer = r.Intn(6) - 1
	}
	return c
}

func (x *side) anyCall(r *rand.Rand) call {
	switch k := r.Intn(40); {
	case k < 12:
		return call{kind: doCall, c: x.anyCommand(r)}
	case k < 14:
		return call{kind: tickCall, n: []int{r.Intn(40), r.Intn(40), -1, farInts()[r.Intn(len(farInts()))]}[r.Intn(4)]}
	case k < 18:
		return call{kind: emitCall, n: r.Intn(len(x.dealers[0])+2) - 1}
	case k < 27:
		return x.anyTake(r)
	case k < 34:
		return call{kind: openCall, name: string([]byte{byte('a' + r.Intn(7))})}
	case k < 36:
		return call{kind: listCall}
	case k < 39:
		return call{kind: syncCall}
	}
	keeps := someKeeps()
	return call{kind: crashCall, keep: []uint64{0, top, r.Uint64(), 1<<r.Intn(20) - 1, keeps[r.Intn(len(keeps))]}[r.Intn(5)]}
}

// 28.1, 28.2, R5: random calls on several vaults side by side: each tells what was done to it alone, and the same calls on another one have the same answers again.
func TestRandomRows(t *testing.T) {
	t.Parallel()
	r := rand.New(rand.NewSource(28))
	seen := map[[2]int]int{}
	taken := map[bool]int{}
	for range 14 {
		var l []*side
		for range 2 + r.Intn(3) {
			l = append(l, anySide(t, r))
		}
		// Two that are made of the same.
		l = append(l, &side{pair: newPair(t, l[0].p.setting), dealers: l[0].dealers})
		for range 150 * len(l) {
			x := l[r.Intn(len(l))]
			c := x.anyCall(r)
			got, want := ask(x.v, c), x.p.ask(c)
			if !got.same(want) {
				t.Fatalf("n %d, t %d, me %d, chosen %d, behind %d calls: %v is told %v; want %v", x.p.n, x.p.t, x.p.me, x.p.chosen, len(x.calls), c, got, want)
			}
			x.calls, x.told = append(x.calls, c), append(x.told, got)
			seen[[2]int{c.kind, int(got.err)}]++
			taken[got.is]++
		}
		for _, x := range l {
			x.check(t)
			x.again(t)
		}
	}
	checkSeen(t, seen)
	if taken[true] < 200 {
		t.Errorf("%v", taken)
	}
}

// checkSeen holds that the rows had all that there is to be told, often enough.
func checkSeen(t *testing.T, seen map[[2]int]int) {
	t.Helper()
	for kind, errs := range map[int][]api.Errno{
		doCall:   {api.OK, api.ErrArg, api.ErrPoint, api.ErrFull, api.ErrTwice, api.ErrNone, api.ErrPruned},
		emitCall: {api.OK, api.ErrArg, api.ErrEarly, api.ErrPruned},
		openCall: {api.OK, api.ErrArg, api.ErrSize, api.ErrSyntax, api.ErrSum, api.ErrShare, api.ErrNone},
	} {
		for _, err := range errs {
			if seen[[2]int{kind, int(err)}] < 4 {
				t.Errorf("calls of kind %d were told %d only %d times", kind, err, seen[[2]int{kind, int(err)}])
			}
		}
	}
}

// again does the same calls on a new vault.
func (x *side) again(t *testing.T) {
	t.Helper()
	v, _ := x.p.vault()
	for i, c := range x.calls {
		if got := ask(v, c); !got.same(x.told[i]) {
			t.Fatalf("call %d, %v, is told %v, and was told %v", i, c, got, x.told[i])
		}
	}
}

// few are calls of which all short rows are done: of a batch of one epoch, of one node, whose one share is its key.
func few() []call {
	file := sealed(5, "text")
	return []call{
		{kind: doCall, c: keyCommand(0, keyOf(5))}, {kind: doCall, c: putCommand(0, "f", file)}, {kind: doCall, c: pruneCommand(0)},
		{kind: tickCall, n: 1}, {kind: takeCall, s: api.Share{At: 1, V: api.Num{5}}}, {kind: syncCall}, {kind: crashCall}, {kind: crashCall, keep: top},
	}
}

// 28.2: all rows of four of few calls, behind a key: what each is told, and all that is told behind them, against the plain play.
func TestAllRows(t *testing.T) {
	t.Parallel()
	calls := few()
	s := setting{n: 1, me: 1, deals: dealsOf(1, [][][]api.Num{{{{5}}}}), chosen: []int{1}, begin: 1, each: 1}
	plain := plainNew(s)
	last := []call{{kind: emitCall}, {kind: openCall, name: "f"}, {kind: listCall}, {kind: doCall, c: keyCommand(0, noKey)}, {kind: takeCall, s: api.Share{At: 2, V: api.Num{5}}}}
	const rows = 8 * 8 * 8 * 8
	for row := range rows {
		v, err := s.vault()
		if err != api.OK {
			t.Fatal(err)
		}
		p := &plainVault{setting: s, chose: plain.chose, shares: map[[2]int][]api.Share{}}
		all := calls[:1:1]
		for left := row + rows; left > 1; left /= 8 {
			all = append(all, calls[left%8])
		}
		for i, c := range append(all, last...) {
			if got, want := ask(v, c), p.ask(c); !got.same(want) {
				t.Fatalf("row %v, call %d: %v is told %v; want %v", all, i, c, got, want)
			}
		}
	}
}
