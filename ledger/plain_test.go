package ledger_test

import (
	"crypto/elliptic"
	"math"
	"math/big"
	"slices"
	"strings"
	"testing"

	"sandglass/api"
	"sandglass/ledger"
)

var (
	curve = elliptic.P256()
	prime = curve.Params().P
	zeros = strings.Repeat("\x00", 5000)
	// Three keys that there are, and one that is none.
	keyA, keyB, keyC = keyOf(1), keyOf(2), keyOf(5)
	noKey            = "\x04" + keyA[1:]
)

// mixed is a text of that length; other seeds have other ones.
func mixed(length int, seed uint64) string {
	b := make([]byte, length)
	x := seed*2 + 1
	for i := range b {
		x = x*6364136223846793005 + 1442695040888963407
		b[i] = byte(x >> 56)
	}
	return string(b)
}

func short(s string) string { return s[:min(len(s), 20)] }

// keyOf is k times the base, as bytes, by the library.
func keyOf(k int64) string {
	x, y := curve.ScalarBaseMult(big.NewInt(k).Bytes())
	return string(elliptic.MarshalCompressed(curve, x, y))
}

// bodyOf is that first byte, and n of 256 bits.
func bodyOf(first byte, n *big.Int) string {
	return string(append([]byte{first}, n.FillBytes(make([]byte, 32))...))
}

// isPoint asks the library.
func isPoint(body string) bool {
	x, _ := elliptic.UnmarshalCompressed(curve, []byte(body))
	return x != nil
}

func keyCommand(epoch int, body string) api.Command {
	return api.Command{Kind: 1, Epoch: epoch, Body: body}
}

func putCommand(epoch int, name, body string) api.Command {
	return api.Command{Kind: 2, Epoch: epoch, Name: name, Body: body}
}

func pruneCommand(epoch int) api.Command { return api.Command{Kind: 3, Epoch: epoch} }

// isCommand is chapter 16's rule, by its words.
func isCommand(c api.Command) bool {
	if c.Epoch < 0 || c.Epoch > 63 {
		return false
	}
	return c.Kind == 1 && c.Name == "" && len(c.Body) == 33 ||
		c.Kind == 2 && len(c.Name) >= 1 && len(c.Name) <= 16 && len(c.Body) <= 4096 ||
		c.Kind == 3 && c.Name == "" && c.Body == ""
}

// plainLedger is the commands that were answered OK, in order, and nothing else: each answer is found by going over them.
type plainLedger struct{ done []api.Command }

func (p *plainLedger) do(c api.Command) api.Errno {
	err := p.refusal(c)
	if err == api.OK {
		p.done = append(p.done, c)
	}
	return err
}

// refusal is the first of the chapter's errors that applies.
func (p *plainLedger) refusal(c api.Command) api.Errno {
	if !isCommand(c) {
		return api.ErrArg
	}
	_, key := p.key(c.Epoch)
	_, file := p.get(c.Name)
	type rule struct {
		is  bool
		err api.Errno
	}
	rules := [][]rule{1: {
		{c.Epoch <= p.pruned(), api.ErrPruned}, {key == api.OK, api.ErrTwice}, {!isPoint(c.Body), api.ErrPoint},
	}, 2: {
		{c.Epoch <= p.pruned(), api.ErrPruned}, {key != api.OK, api.ErrNone}, {file == api.OK, api.ErrTwice}, {len(p.list()) == 32, api.ErrFull},
	}, 3: nil}
	for _, x := range rules[c.Kind] {
		if x.is {
			return x.err
		}
	}
	return api.OK
}

func (p *plainLedger) pruned() int {
	most := -1
	for _, c := range p.done {
		if c.Kind == 3 && c.Epoch > most {
			most = c.Epoch
		}
	}
	return most
}

func (p *plainLedger) key(epoch int) (string, api.Errno) {
	if epoch < 0 || epoch > 63 {
		return "", api.ErrArg
	}
	if epoch <= p.pruned() {
		return "", api.ErrPruned
	}
	for _, c := range p.done {
		if c.Kind == 1 && c.Epoch == epoch {
			return c.Body, api.OK
		}
	}
	return "", api.ErrNone
}

// files are those that were put and not pruned, as they came.
func (p *plainLedger) files() []api.File {
	var l []api.File
	for _, c := range p.done {
		if c.Kind == 2 && c.Epoch > p.pruned() {
			l = append(l, api.File{Epoch: c.Epoch, Name: c.Name, Body: c.Body})
		}
	}
	return l
}

func (p *plainLedger) get(name string) (api.File, api.Errno) {
	for _, f := range p.files() {
		if f.Name == name {
			return f, api.OK
		}
	}
	return api.File{}, api.ErrNone
}

func (p *plainLedger) list() []string {
	var l []string
	for _, f := range p.files() {
		l = append(l, f.Name)
	}
	slices.Sort(l)
	return l
}

// names are all that were ever put, and some that never were.
func (p *plainLedger) names() []string {
	l := []string{"", "never", "\x00\x00\x00", "\xff\xff\xff", zeros[:16], zeros[:17], mixed(300, 9)}
	for _, c := range p.done {
		if c.Kind == 2 {
			l = append(l, c.Name, c.Name+"\x00", c.Name[1:], c.Name[:len(c.Name)-1])
		}
	}
	slices.Sort(l)
	return slices.Compact(l)
}

// farInts are ints beyond all epochs, kinds and sizes.
func farInts() []int {
	return []int{math.MinInt, math.MinInt + 1, math.MinInt + 63, math.MinInt32, -65536, -257, -256, -65, -64, -63, 256, 257, 319, 320, 65536, math.MaxInt32, 1 << 32, 1<<32 + 1, math.MaxInt - 63, math.MaxInt - 1, math.MaxInt}
}

// state is all that a catalogue tells.
type state struct {
	keys   []string
	noKeys []api.Errno
	files  []api.File
	none   []api.Errno
	list   []string
	pruned int
}

func (s state) same(other state) bool {
	return slices.Equal(s.keys, other.keys) && slices.Equal(s.noKeys, other.noKeys) && slices.Equal(s.files, other.files) &&
		slices.Equal(s.none, other.none) && slices.Equal(s.list, other.list) && s.pruned == other.pruned
}

// catalogue is what a Ledger can be asked for.
type catalogue interface {
	Key(epoch int) (string, api.Errno)
	Get(name string) (api.File, api.Errno)
	List() []string
	Pruned() int
}

// stateOf asks for every epoch, those beside them, and all these names.
func stateOf(l catalogue, names []string) state {
	s := state{list: l.List(), pruned: l.Pruned()}
	for epoch := -2; epoch <= 65; epoch++ {
		key, err := l.Key(epoch)
		s.keys, s.noKeys = append(s.keys, key), append(s.noKeys, err)
	}
	for _, name := range names {
		f, err := l.Get(name)
		s.files, s.none = append(s.files, f), append(s.none, err)
	}
	return s
}

// plain lets a plainLedger be asked as a Ledger is.
type plain struct{ p *plainLedger }

func (x plain) Key(epoch int) (string, api.Errno)     { return x.p.key(epoch) }
func (x plain) Get(name string) (api.File, api.Errno) { return x.p.get(name) }
func (x plain) List() []string                        { return x.p.list() }
func (x plain) Pruned() int                           { return x.p.pruned() }

// pair is a Ledger, and the plain one to hold it against.
type pair struct {
	l *ledger.Ledger
	p *plainLedger
}

func newPair(t *testing.T, commands ...api.Command) pair {
	t.Helper()
	x := pair{ledger.New(), &plainLedger{}}
	if x.l == nil {
		t.Fatal("no catalogue")
	}
	x.doAll(t, commands...)
	return x
}

// doAll does commands that are to be taken.
func (x pair) doAll(t *testing.T, commands ...api.Command) {
	t.Helper()
	for _, c := range commands {
		x.do(t, c, api.OK)
	}
}

// do holds what a command is answered, and that what is refused changes nothing.
func (x pair) do(t *testing.T, c api.Command, want api.Errno) {
	t.Helper()
	var before state
	names := append(x.p.names(), c.Name)
	if want != api.OK {
		before = stateOf(x.l, names)
	}
	if got := x.l.Do(c); got != want {
		t.Fatalf("kind %d, epoch %d, %q, %d bytes: %d; want %d", c.Kind, c.Epoch, short(c.Name), len(c.Body), got, want)
	}
	if got := x.p.do(c); got != want {
		t.Fatalf("kind %d, epoch %d, %q, %d bytes: the plain count is %d; want %d", c.Kind, c.Epoch, short(c.Name), len(c.Body), got, want)
	}
	if want != api.OK && !stateOf(x.l, names).same(before) {
		t.Errorf("kind %d, epoch %d, %q, %d bytes: it was refused, and changed something", c.Kind, c.Epoch, short(c.Name), len(c.Body))
	}
}

// check holds all that the catalogue tells against the plain one.
func (x pair) check(t *testing.T) {
	t.Helper()
	checkPlain(t, x.l, x.p)
}

func checkPlain(t *testing.T, l *ledger.Ledger, p *plainLedger) {
	t.Helper()
	if names := p.names(); !stateOf(l, names).same(stateOf(plain{p}, names)) {
		t.Fatalf("it tells other things than the plain one: names %q, pruned %d; want %q, %d", l.List(), l.Pruned(), p.list(), p.pruned())
	}
}

func checkKey(t *testing.T, l *ledger.Ledger, epoch int, key string, want api.Errno) {
	t.Helper()
	if got, err := l.Key(epoch); got != key || err != want {
		t.Errorf("Key of %d: %q, %d; want %q, %d", epoch, short(got), err, short(key), want)
	}
}

func checkGet(t *testing.T, l *ledger.Ledger, name string, f api.File, want api.Errno) {
	t.Helper()
	if got, err := l.Get(name); got != f || err != want {
		t.Errorf("Get of %q: epoch %d, %q, %q, %d; want epoch %d, %q, %q, %d", short(name), got.Epoch, got.Name, short(got.Body), err, f.Epoch, f.Name, short(f.Body), want)
	}
}

func checkNoFile(t *testing.T, l *ledger.Ledger, names ...string) {
	t.Helper()
	for _, name := range names {
		checkGet(t, l, name, api.File{}, api.ErrNone)
	}
}

func checkList(t *testing.T, l *ledger.Ledger, names ...string) {
	t.Helper()
	if got := l.List(); !slices.Equal(got, names) {
		t.Errorf("names %q; want %q", got, names)
	}
}

func checkPruned(t *testing.T, l *ledger.Ledger, want int) {
	t.Helper()
	if got := l.Pruned(); got != want {
		t.Errorf("pruned %d; want %d", got, want)
	}
}

// The plain count itself, against what was counted by hand.
func TestPlainCount(t *testing.T) {
	p := &plainLedger{}
	for i, x := range []struct {
		c    api.Command
		want api.Errno
	}{
		{putCommand(2, "b", "1"), api.ErrNone}, {keyCommand(2, noKey), api.ErrPoint}, {keyCommand(2, keyA), api.OK}, {keyCommand(2, noKey), api.ErrTwice},
		{putCommand(2, "b", "1"), api.OK}, {putCommand(2, "b", ""), api.ErrTwice}, {putCommand(2, "a", "2"), api.OK}, {putCommand(64, "c", ""), api.ErrArg},
		{keyCommand(3, keyB), api.OK}, {putCommand(3, "c", "3"), api.OK}, {pruneCommand(2), api.OK}, {pruneCommand(0), api.OK},
		{keyCommand(1, keyA), api.ErrPruned}, {putCommand(2, "d", ""), api.ErrPruned}, {putCommand(3, "b", "4"), api.OK},
	} {
		if err := p.do(x.c); err != x.want {
			t.Errorf("%d: %d; want %d", i, err, x.want)
		}
	}
	file, err := p.get("b")
	if file != (api.File{Epoch: 3, Name: "b", Body: "4"}) || err != api.OK {
		t.Errorf("a file: %v, %d", file, err)
	}
	if _, err := p.get("a"); err != api.ErrNone {
		t.Errorf("a file that is gone: %d", err)
	}
	for epoch, want := range map[int]api.Errno{-1: api.ErrArg, 2: api.ErrPruned, 3: api.OK, 4: api.ErrNone, 64: api.ErrArg} {
		if key, err := p.key(epoch); err != want || (key == keyB) != (want == api.OK) {
			t.Errorf("key of %d: %d", epoch, err)
		}
	}
	if p.pruned() != 2 || !slices.Equal(p.list(), []string{"b", "c"}) {
		t.Error("names")
	}
	if !isPoint(keyA) || !isPoint(keyB) || isPoint(noKey) || keyA[0] != 3 || keyA == keyB {
		t.Error("keys")
	}
}
