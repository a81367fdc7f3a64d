package agree_test

import (
	"math"
	"slices"
	"testing"

	"sandglass/agree"
	"sandglass/api"
	"sandglass/wire"
)

// mixed is a text of that length; other seeds have other ones.
func mixed(length int, seed uint64) string {
	b := make([]byte, length)
	x := seed*2 + 1
	for i := range b {
		x = x*6364136223846793005 + 1442695040888963407
		b[i] = byte(x >> 56)
	}
	return string(b)
}

func short(s string) string { return s[:min(len(s), 20)] }

func propose(from, round, valid int, value string) api.Word {
	return api.Word{Kind: 1, From: from, Round: round, Valid: valid, Value: value}
}

func prevote(from, round int, value string) api.Word {
	return api.Word{Kind: 2, From: from, Round: round, Value: value}
}

func precommit(from, round int, value string) api.Word {
	return api.Word{Kind: 3, From: from, Round: round, Value: value}
}

func timeout(round, step int) api.Word { return api.Word{Kind: 4, Round: round, Valid: step} }

// size is how many nodes there are, and how many of them may be wrong.
type size struct{ n, t int }

// sizes are all that have an agreement, written out.
func sizes() []size {
	return []size{{1, 0}, {2, 0}, {3, 0}, {4, 0}, {5, 0}, {6, 0}, {7, 0}, {4, 1}, {5, 1}, {6, 1}, {7, 1}, {7, 2}}
}

// farInts are ints at and near their edges, and such as go round when they are added up.
func farInts() []int {
	l := []int{-1, -2, -3, -7, -64, -65, 66, 127, 128, 255, 256, 257, 1 << 16, 1 << 32, 1<<32 + 1}
	for _, k := range []int{math.MaxInt, math.MaxInt / 2, math.MaxInt / 3, math.MinInt, math.MinInt / 2, math.MinInt / 3} {
		for d := -4; d <= 4; d++ {
			l = append(l, k+d)
		}
	}
	return l
}

// plainLeader goes from node to node, one for each height and each round.
func plainLeader(n, height, round int) int {
	leader := 1
	for range height + round {
		leader++
		if leader > n {
			leader = 1
		}
	}
	return leader
}

// plainAgree is a node's part that keeps all words that counted, in order, and goes over them again at each rule.
type plainAgree struct {
	n, t, me, height   int
	value              string
	round, step        int
	lock, valid        string
	lockedAt, validAt  int
	chosen             []int // the rounds in which rule 5 applied
	counted            []api.Word
	decided            bool
	decision           string
	said               []api.Word
	applied            [7]int // how often each rule did; at 0 how often several did at one word
	forbidden, follows int    // how often rule 3 and 4 had a prevote of none, and rule 5 a valid value alone
}

func newPlain(n, t, me, height int, value string) *plainAgree {
	return &plainAgree{n: n, t: t, me: me, height: height, value: value, round: -1, lockedAt: -1, validAt: -1}
}

func (p *plainAgree) say(kind, valid int, value string) {
	p.said = append(p.said, api.Word{Kind: kind, From: p.me, Round: p.round, Valid: valid, Value: value})
}

func (p *plainAgree) begin(round int) {
	if round > 63 {
		return
	}
	p.round, p.step = round, 1
	if plainLeader(p.n, p.height, round) != p.me {
		return
	}
	if p.validAt == -1 {
		p.say(1, -1, p.value)
	} else {
		p.say(1, p.validAt, p.valid)
	}
}

func (p *plainAgree) start() []api.Word {
	p.said = nil
	if p.round == -1 {
		p.begin(0)
	}
	return p.said
}

// proposal is the one of that round that counts.
func (p *plainAgree) proposal(round int) (api.Word, bool) {
	for _, w := range p.counted {
		if w.Kind == 1 && w.Round == round {
			return w, true
		}
	}
	return api.Word{}, false
}

// most is whether more than half of n and t are votes of that kind, round and value.
func (p *plainAgree) most(kind, round int, value string) bool {
	count := 0
	for _, w := range p.counted {
		if w.Kind == kind && w.Round == round && w.Value == value {
			count++
		}
	}
	return 2*count > p.n+p.t
}

// ahead is the greatest round beyond its own with votes of more than t nodes, or -1.
func (p *plainAgree) ahead() int {
	best := -1
	for _, vote := range p.counted {
		if vote.Kind == 1 || vote.Round <= max(best, p.round) {
			continue
		}
		var nodes []int
		for _, w := range p.counted {
			if w.Kind != 1 && w.Round == vote.Round && !slices.Contains(nodes, w.From) {
				nodes = append(nodes, w.From)
			}
		}
		if len(nodes) >= p.t+1 {
			best = vote.Round
		}
	}
	return best
}

// agreed is the proposal of the least round whose precommits are most of its value.
func (p *plainAgree) agreed() (api.Word, bool) {
	least, is := api.Word{}, false
	for _, w := range p.counted {
		if w.Kind == 1 && p.most(3, w.Round, w.Value) && (!is || w.Round < least.Round) {
			least, is = w, true
		}
	}
	return least, is
}

// counts is whether a proposal or a vote does.
func (p *plainAgree) counts(w api.Word) bool {
	for _, x := range p.counted {
		if x.Kind == w.Kind && x.Round == w.Round && (w.Kind == 1 || x.From == w.From) {
			return false
		}
	}
	if w.Kind == 1 {
		return w.From == plainLeader(p.n, p.height, w.Round)
	}
	return w.From <= p.n
}

func (p *plainAgree) take(w api.Word) []api.Word {
	p.said = nil
	if p.round == -1 || p.decided {
		return nil
	}
	if w.Kind == 4 {
		if !slices.Contains([]int{1, 2, 3}, w.Valid) {
			return nil
		}
		p.timeout(w)
	} else {
		if _, err := wire.Word(w); err != api.OK {
			return nil
		}
		if p.counts(w) {
			p.counted = append(p.counted, w)
		}
	}
	before := p.applied
	for {
		rule := p.rule()
		if rule == 0 {
			break
		}
		p.applied[rule]++
		if rule == 1 {
			break
		}
	}
	several := 0
	for k := 1; k <= 6; k++ {
		several += p.applied[k] - before[k]
	}
	if several > 1 {
		p.applied[0]++
	}
	return p.said
}

func (p *plainAgree) timeout(w api.Word) {
	if w.Round != p.round {
		return
	}
	if w.Valid == 1 && p.step == 1 {
		p.vote(2, "")
	} else if w.Valid == 2 && p.step == 2 {
		p.vote(3, "")
	} else if w.Valid == 3 {
		p.begin(p.round + 1)
	}
}

// vote says it, and goes to the step of its kind: a prevote's and a precommit's number is the step's, too.
func (p *plainAgree) vote(kind int, value string) {
	p.say(kind, 0, value)
	p.step = kind
}

// rule does the work of the first one that applies, and is its number; 0 is none.
func (p *plainAgree) rule() int {
	if w, is := p.agreed(); is {
		p.decided, p.decision = true, w.Value
		return 1
	}
	if next := p.ahead(); next > p.round {
		p.begin(next)
		return 2
	}
	w, is := p.proposal(p.round)
	if p.step == 1 && is && w.Valid == -1 {
		p.answer(w.Value, p.lockedAt == -1 || p.lock == w.Value)
		return 3
	}
	if p.step == 1 && is && w.Valid >= 0 && p.most(2, w.Valid, w.Value) {
		p.answer(w.Value, p.lockedAt <= w.Valid || p.lock == w.Value)
		return 4
	}
	if p.step != 1 && is && p.most(2, p.round, w.Value) && !slices.Contains(p.chosen, p.round) {
		p.chosen = append(p.chosen, p.round)
		p.valid, p.validAt = w.Value, p.round
		if p.step == 2 {
			p.lock, p.lockedAt = w.Value, p.round
			p.vote(3, w.Value)
		} else {
			p.follows++
		}
		return 5
	}
	if p.step == 2 && p.most(2, p.round, "") {
		p.vote(3, "")
		return 6
	}
	return 0
}

func (p *plainAgree) answer(value string, may bool) {
	if !may {
		value = ""
		p.forbidden++
	}
	p.vote(2, value)
}

// state is all that a part tells.
type state struct {
	round, step int
	lock        string
	lockedAt    int
	decision    string
	decided     bool
}

func (p *plainAgree) state() state {
	return state{p.round, p.step, p.lock, p.lockedAt, p.decision, p.decided}
}

func stateOf(a *agree.Agree) state {
	var s state
	s.round, s.step = a.At()
	s.lock, s.lockedAt = a.Locked()
	s.decision, s.decided = a.Decided()
	return s
}

// at is a state without a lock or a decision.
func at(round, step int) state { return state{round: round, step: step, lockedAt: -1} }

// locked is a state with a lock.
func locked(round, step int, lock string, lockedAt int) state {
	return state{round: round, step: step, lock: lock, lockedAt: lockedAt}
}

// decides is the same state with a decision.
func (s state) decides(value string) state {
	s.decision, s.decided = value, true
	return s
}

// cut is the same state with its texts as short as can be shown.
func (s state) cut() state {
	s.lock, s.decision = short(s.lock), short(s.decision)
	return s
}

func checkState(t *testing.T, a *agree.Agree, want state) {
	if got := stateOf(a); got != want {
		t.Helper()
		t.Errorf("it tells %+v; want %+v", got.cut(), want.cut())
	}
}

func checkSaid(t *testing.T, got []api.Word, want ...api.Word) {
	if !slices.Equal(got, want) {
		t.Helper()
		t.Errorf("%d words said; want %d", len(got), len(want))
		for _, w := range got {
			t.Logf("said: kind %d from %d, round %d, valid %d, %q", w.Kind, w.From, w.Round, w.Valid, short(w.Value))
		}
		for _, w := range want {
			t.Logf("want: kind %d from %d, round %d, valid %d, %q", w.Kind, w.From, w.Round, w.Valid, short(w.Value))
		}
	}
}

// checkTake hands w to a, and holds what it says against what it should say.
func checkTake(t *testing.T, a *agree.Agree, w api.Word, want ...api.Word) {
	got := a.Take(w)
	if !slices.Equal(got, want) {
		t.Helper()
		t.Errorf("behind kind %d from %d, round %d, valid %d, %q (%d bytes):", w.Kind, w.From, w.Round, w.Valid, short(w.Value), len(w.Value))
		checkSaid(t, got, want...)
	}
}

// takeAll hands words to a, behind which it says nothing.
func takeAll(t *testing.T, a *agree.Agree, l ...api.Word) {
	t.Helper()
	for _, w := range l {
		checkTake(t, a, w)
	}
}

// made is a part that there is.
func made(t *testing.T, n, wrong, me, height int, value string) *agree.Agree {
	t.Helper()
	a := agree.New(n, wrong, me, height, value)
	if a == nil {
		t.Fatalf("n %d, t %d, node %d, height %d, %d bytes: no part", n, wrong, me, height, len(value))
	}
	return a
}

// started is node me's part of four, of whom one may be wrong, at height 0: the Leaders of rounds 0, 1, 2, 3, 4 are 1, 2, 3, 4, 1; three votes are Most, and two nodes make a round be ahead.
func started(t *testing.T, me int) *agree.Agree {
	t.Helper()
	a := made(t, 4, 1, me, 0, "own")
	if me == 1 {
		checkSaid(t, a.Start(), propose(1, 0, -1, "own"))
	} else {
		checkSaid(t, a.Start())
	}
	checkState(t, a, at(0, 1))
	return a
}

// turn is a word that is taken, and what is said and told behind it.
type turn struct {
	w    api.Word
	said []api.Word
	then state
}

func says(l ...api.Word) []api.Word { return l }

// play lets a take one word behind the other.
func play(t *testing.T, a *agree.Agree, l ...turn) {
	t.Helper()
	for i, x := range l {
		checkTake(t, a, x.w, x.said...)
		checkState(t, a, x.then)
		if t.Failed() {
			t.Fatalf("at turn %d", i)
		}
	}
}

// checkPlain hands w to a part and to its plain play.
func checkPlain(t *testing.T, a *agree.Agree, p *plainAgree, w api.Word) []api.Word {
	got, want := a.Take(w), p.take(w)
	if !slices.Equal(got, want) {
		t.Helper()
		t.Errorf("behind kind %d from %d, round %d, valid %d, %q (%d bytes):", w.Kind, w.From, w.Round, w.Valid, short(w.Value), len(w.Value))
		checkSaid(t, got, want...)
	}
	checkState(t, a, p.state())
	return got
}

// The plain play itself, against what was worked out by hand.
func TestPlainPlay(t *testing.T) {
	p := newPlain(4, 1, 2, 0, "own")
	if p.take(propose(1, 0, -1, "x")) != nil || p.start() != nil || p.start() != nil || p.state() != at(0, 1) {
		t.Error("start")
	}
	long := mixed(4097, 1)
	for i, x := range []turn{
		{propose(2, 0, -1, "x"), nil, at(0, 1)},
		{propose(1, 0, -1, long), nil, at(0, 1)},
		{propose(1, 0, 0, "x"), nil, at(0, 1)},
		{propose(1, 0, -1, "x"), says(prevote(2, 0, "x")), at(0, 2)},
		{propose(1, 0, -1, "y"), nil, at(0, 2)},
		{prevote(5, 0, "x"), nil, at(0, 2)},
		{prevote(1, 0, "x"), nil, at(0, 2)},
		{prevote(1, 0, "x"), nil, at(0, 2)},
		{prevote(3, 0, "x"), nil, at(0, 2)},
		{prevote(4, 0, "x"), says(precommit(2, 0, "x")), locked(0, 3, "x", 0)},
		{timeout(1, 3), nil, locked(0, 3, "x", 0)},
		{timeout(0, 4), nil, locked(0, 3, "x", 0)},
		{timeout(0, 1), nil, locked(0, 3, "x", 0)},
		{timeout(0, 3), says(propose(2, 1, 0, "x")), locked(1, 1, "x", 0)},
		{timeout(1, 1), says(prevote(2, 1, "")), locked(1, 2, "x", 0)},
		{timeout(1, 2), says(precommit(2, 1, "")), locked(1, 3, "x", 0)},
		{prevote(3, 4, "y"), nil, locked(1, 3, "x", 0)},
		{propose(1, 4, -1, "y"), nil, locked(1, 3, "x", 0)},
		{precommit(4, 4, "y"), says(prevote(2, 4, "")), locked(4, 2, "x", 0)},
		{precommit(3, 4, "y"), nil, locked(4, 2, "x", 0)},
		{precommit(1, 4, "y"), nil, locked(4, 2, "x", 0).decides("y")},
		{timeout(4, 3), nil, locked(4, 2, "x", 0).decides("y")},
	} {
		if said := p.take(x.w); !slices.Equal(said, x.said) || p.state() != x.then {
			t.Errorf("%d: %.60v, %+v", i, said, p.state())
		}
	}
	for i, x := range [][4]int{{4, 0, 0, 1}, {4, 2, 3, 2}, {7, 64, 64, 3}, {1, 9, 9, 1}} {
		if plainLeader(x[0], x[1], x[2]) != x[3] {
			t.Errorf("leader %d", i)
		}
	}
}
