package vault_test

import (
	"slices"
	"testing"

	"sandglass/api"
	"sandglass/mult"
	"sandglass/seal"
	"sandglass/vault"
)

// polynomials are those of three dealers, two epochs each. The secrets of epoch 0 are 5, 2 and 7, of epoch 1 they are 1, 4 and 10.
func polynomials() [][][]api.Num {
	return [][][]api.Num{{{{5}, {3}}, {{1}, {1}}}, {{{2}, {9}}, {{4}, {6}}}, {{{7}, {2}}, {{10}, {1}}}}
}

// standard is node 2 of four, of whom one may be wrong, with these of the three dealers chosen; its epochs open at 10 and 15.
func standard(chosen ...int) setting {
	return setting{n: 4, t: 1, me: 2, deals: dealsOf(4, polynomials()), chosen: chosen, begin: 10, each: 5}
}

// sealed is a file that k opens.
func sealed(k uint64, text string) string {
	file, err := seal.Seal(mult.Base(api.Num{k}), api.Num{3}, text)
	if err != api.OK {
		panic(err)
	}
	return file
}

// pair is a vault, and the plain one to which the same was done.
type pair struct {
	v *vault.Vault
	p *plainVault
}

func (s setting) vault() (*vault.Vault, api.Errno) {
	return vault.New(s.n, s.t, s.me, s.deals, s.chosen, s.begin, s.each)
}

// newPair is of a setting that may be.
func newPair(t *testing.T, s setting) pair {
	t.Helper()
	v, err := s.vault()
	p := plainNew(s)
	if v == nil || err != api.OK || p == nil {
		t.Fatalf("n %d, t %d, me %d, chosen %d: %v, %d; the plain one %v", s.n, s.t, s.me, s.chosen, v, err, p)
	}
	return pair{v, p}
}

// checkNew holds whether there is a vault of that setting.
func checkNew(t *testing.T, s setting, want bool) {
	t.Helper()
	if plain := plainNew(s) != nil; plain != want {
		t.Errorf("n %d, t %d, me %d, chosen %d: the plain one is there: %t", s.n, s.t, s.me, s.chosen, plain)
	}
	v, err := s.vault()
	if (v != nil) != want || (err == api.OK) != want || err != api.OK && err != api.ErrArg {
		t.Errorf("n %d, t %d, me %d, %d deals, chosen %d, begin %d, each %d: %t, %d", s.n, s.t, s.me, len(s.deals), s.chosen, s.begin, s.each, v != nil, err)
	}
}

// do holds what a command is answered, and that what is refused changes nothing.
func (x pair) do(t *testing.T, c api.Command, want api.Errno) {
	t.Helper()
	if got := x.p.do(c); got != want {
		t.Fatalf("kind %d, epoch %d, %q, %d bytes: the plain one tells %d; want %d", c.Kind, c.Epoch, short(c.Name), len(c.Body), got, want)
	}
	if got := x.v.Do(c); got != want {
		t.Fatalf("kind %d, epoch %d, %q, %d bytes: %d; want %d", c.Kind, c.Epoch, short(c.Name), len(c.Body), got, want)
	}
	if want != api.OK {
		x.check(t)
	}
}

// doAll does commands that are to be done.
func (x pair) doAll(t *testing.T, commands ...api.Command) {
	t.Helper()
	for _, c := range commands {
		x.do(t, c, api.OK)
	}
}

func (x pair) tick(now int) {
	x.v.Tick(now)
	x.p.tick(now)
}

func (x pair) sync() {
	x.v.Sync()
	x.p.sync()
}

func (x pair) crash(keep uint64) {
	x.v.Crash(keep)
	x.p.crash(keep)
}

// emit holds that these are the values of the shares that go out.
func (x pair) emit(t *testing.T, epoch int, values ...uint64) {
	t.Helper()
	var want []api.Share
	for _, v := range values {
		want = append(want, api.Share{At: x.p.me, V: api.Num{v}})
	}
	if l, err := x.p.emit(epoch); !slices.Equal(l, want) || err != api.OK {
		t.Errorf("the plain Emit of %d: %v, %d; want %v", epoch, l, err, want)
	}
	if l, err := x.v.Emit(epoch); !slices.Equal(l, want) || err != api.OK {
		t.Errorf("Emit of %d: %v, %d; want %v", epoch, l, err, want)
	}
}

// emitNone holds by which error none go out.
func (x pair) emitNone(t *testing.T, epoch int, want api.Errno) {
	t.Helper()
	if _, err := x.p.emit(epoch); err != want {
		t.Errorf("the plain Emit of %d: %d; want %d", epoch, err, want)
	}
	if l, err := x.v.Emit(epoch); len(l) != 0 || err != want {
		t.Errorf("Emit of %d: %v, %d; want %d", epoch, l, err, want)
	}
}

// take holds whether the share is kept.
func (x pair) take(t *testing.T, epoch, dealer int, s api.Share, want bool) {
	t.Helper()
	if got := x.p.take(epoch, dealer, s); got != want {
		t.Errorf("the plain Take of epoch %d, dealer %d, %x at %d: %t", epoch, dealer, s.V, s.At, got)
	}
	if got := x.v.Take(epoch, dealer, s); got != want {
		t.Errorf("Take of epoch %d, dealer %d, %x at %d: %t", epoch, dealer, s.V, s.At, got)
	}
}

// takeAll takes as many shares as make the epoch's key, of these polynomials of the chosen dealers.
func (x pair) takeAll(t *testing.T, epoch int, dealers ...[][]api.Num) {
	t.Helper()
	for dealer, polys := range dealers {
		for place := 1; place <= x.p.t+1; place++ {
			x.take(t, epoch, dealer, shareAt(polys[epoch], place), true)
		}
	}
}

// open holds what a file is opened to, or why it is not.
func (x pair) open(t *testing.T, name, text string, want api.Errno) {
	t.Helper()
	if got, err := x.p.open(name); got != text || err != want {
		t.Errorf("the plain Open of %q: %q, %d; want %q, %d", short(name), short(got), err, short(text), want)
	}
	if got, err := x.v.Open(name); got != text || err != want {
		t.Errorf("Open of %q: %q, %d; want %q, %d", short(name), short(got), err, short(text), want)
	}
}

func (x pair) list(t *testing.T, names ...string) {
	t.Helper()
	if got := x.v.List(); !slices.Equal(got, names) || !slices.Equal(x.p.list(), names) {
		t.Errorf("List is %q, the plain one %q; want %q", got, x.p.list(), names)
	}
}

// names are all that were put so far, as the log has them, and some that never were.
func (p *plainVault) names() []string {
	l := []string{"", "never", zeros[:16], zeros[:17], mixed(300, 9)}
	for _, c := range p.done {
		if c.Kind == 2 {
			l = append(l, c.Name, c.Name+"\x00", c.Name[1:])
		}
	}
	slices.Sort(l)
	return slices.Compact(l)
}

// check holds all that the vault tells against the plain one, and changes nothing: a key that is none is refused by why an epoch has, or could have, another one.
func (x pair) check(t *testing.T) {
	t.Helper()
	if got, want := x.v.List(), x.p.list(); !slices.Equal(got, want) {
		t.Errorf("List is %q; want %q", got, want)
	}
	for epoch := -2; epoch <= 66; epoch++ {
		if got, want := x.v.Do(keyCommand(epoch, noKey)), x.p.refusal(keyCommand(epoch, noKey)); got != want {
			t.Errorf("a key that is none to epoch %d: %d; want %d", epoch, got, want)
		}
		l, err := x.v.Emit(epoch)
		if want, wantErr := x.p.emit(epoch); !slices.Equal(l, want) || err != wantErr {
			t.Errorf("Emit of %d: %v, %d; want %v, %d", epoch, l, err, want, wantErr)
		}
	}
	for _, name := range x.p.names() {
		text, err := x.v.Open(name)
		if want, wantErr := x.p.open(name); text != want || err != wantErr {
			t.Errorf("Open of %q: %q, %d; want %q, %d", short(name), short(text), err, short(want), wantErr)
		}
	}
	if t.Failed() {
		t.Fatalf("n %d, t %d, me %d, chosen %d, %d records, %d sure", x.p.n, x.p.t, x.p.me, x.p.chosen, len(x.p.records), x.p.sure)
	}
}
