package vault_test

import (
	"crypto/elliptic"
	"encoding/binary"
	"hash/crc32"
	"math"
	"math/big"
	"slices"
	"strings"
	"testing"

	"sandglass/api"
	"sandglass/seal"
)

const (
	top  = math.MaxUint64
	last = 1 << 31 // the last place of a share that may be
)

var (
	curve    = elliptic.P256()
	q        = digits("ffffffff00000000ffffffffffffffffbce6faada7179e84f3b9cac2fc632551")
	order    = fromBig(q)
	greatest = api.Num{top, top, top, top}
	none     = api.Point{None: true}
	base     = plainBase(api.Num{1})
	zeros    = strings.Repeat("\x00", 5000)
	noKey    = "\x04" + zeros[:32] // as long as a key, and none
)

func digits(hex string) *big.Int {
	n, ok := new(big.Int).SetString(hex, 16)
	if !ok {
		panic(hex)
	}
	return n
}

// toBig and fromBig are made of the words alone, so that no layer under the calls judges them.
func toBig(a api.Num) *big.Int {
	n := new(big.Int)
	for i := 3; i >= 0; i-- {
		n.Lsh(n, 64)
		n.Or(n, new(big.Int).SetUint64(a[i]))
	}
	return n
}

func fromBig(n *big.Int) api.Num {
	var a api.Num
	word := new(big.Int).SetUint64(top)
	for i := range a {
		a[i] = new(big.Int).And(new(big.Int).Rsh(n, uint(64*i)), word).Uint64()
	}
	return a
}

// residue is n modulo q, from 0 on, of an n that may be less than 0.
func residue(n *big.Int) api.Num { return fromBig(new(big.Int).Mod(n, q)) }

// plus is a + n modulo q.
func plus(a api.Num, n int64) api.Num { return residue(new(big.Int).Add(toBig(a), big.NewInt(n))) }

// farInts are ints at the ends of what an int holds, and such that are near what may be if some of their bits are lost.
func farInts() []int {
	return []int{math.MinInt, math.MinInt + 1, math.MinInt + 2, math.MinInt32, math.MinInt32 + 1, -1<<32 + 1, -256, -255, 256, 257, 258, 1<<16 + 1, math.MaxInt32, 1 << 32, 1<<32 + 1, 1<<32 + 2, math.MaxInt - 1, math.MaxInt}
}

// mixed is a text of that length; other seeds have other ones.
func mixed(length int, seed uint64) string {
	b := make([]byte, length)
	x := seed*2 + 1
	for i := range b {
		x = x*6364136223846793005 + 1442695040888963407
		b[i] = byte(x >> 56)
	}
	return string(b)
}

func short(s string) string { return s[:min(len(s), 20)] }

// counted is what p counts as: a point that is none of the curve counts as None.
func counted(p api.Point) api.Point {
	if p.None || !curve.IsOnCurve(toBig(p.X), toBig(p.Y)) {
		return none
	}
	return p
}

func fromEnds(x, y *big.Int) api.Point {
	return api.Point{X: fromBig(x), Y: fromBig(y), None: x.Sign() == 0 && y.Sign() == 0}
}

func plainAdd(a, b api.Point) api.Point {
	a, b = counted(a), counted(b)
	return fromEnds(curve.Add(toBig(a.X), toBig(a.Y), toBig(b.X), toBig(b.Y)))
}

func plainMul(k *big.Int, p api.Point) api.Point {
	p = counted(p)
	return fromEnds(curve.ScalarMult(toBig(p.X), toBig(p.Y), new(big.Int).Mod(k, q).Bytes()))
}

func plainBase(a api.Num) api.Point {
	return fromEnds(curve.ScalarBaseMult(new(big.Int).Mod(toBig(a), q).Bytes()))
}

// power is exact.
func power(place, by int) *big.Int {
	return new(big.Int).Exp(big.NewInt(int64(place)), big.NewInt(int64(by)), nil)
}

// valueAt is the polynomial at a place, modulo q.
func valueAt(c []api.Num, place int) api.Num {
	sum := new(big.Int)
	for i, a := range c {
		sum.Add(sum, new(big.Int).Mul(power(place, i), toBig(a)))
	}
	return residue(sum)
}

func shareAt(c []api.Num, place int) api.Share { return api.Share{At: place, V: valueAt(c, place)} }

// dealt is the deal of these polynomials, one an epoch, to n nodes, whatever they are.
func dealt(n int, polys [][]api.Num) api.Deal {
	var d api.Deal
	for _, c := range polys {
		var points []api.Point
		for _, a := range c {
			points = append(points, plainBase(a))
		}
		d.Commits = append(d.Commits, points)
	}
	for node := 1; node <= n; node++ {
		var l []api.Num
		for _, c := range polys {
			l = append(l, valueAt(c, node))
		}
		d.Values = append(d.Values, l)
	}
	return d
}

func dealsOf(n int, dealers [][][]api.Num) []api.Deal {
	var l []api.Deal
	for _, polys := range dealers {
		l = append(l, dealt(n, polys))
	}
	return l
}

// plainVerify tells whether the points bind the dealer to the share.
func plainVerify(points []api.Point, s api.Share) bool {
	if len(points) == 0 || s.At < 1 || s.At > last || toBig(s.V).Cmp(q) >= 0 {
		return false
	}
	sum := none
	for i, p := range points {
		sum = plainAdd(sum, plainMul(power(s.At, i), p))
	}
	return sum == plainBase(s.V)
}

// plainJoin is the polynomial at 0 that goes through these shares, modulo q: the fractions are divided last.
func plainJoin(l []api.Share) *big.Int {
	sum := new(big.Int)
	for _, s := range l {
		over, under := toBig(s.V), big.NewInt(1)
		for _, other := range l {
			if other.At != s.At {
				over.Mul(over, big.NewInt(int64(other.At)))
				under.Mul(under, big.NewInt(int64(other.At-s.At)))
			}
		}
		under.Mod(under, q)
		sum.Add(sum, over.Mul(over, under.ModInverse(under, q)))
	}
	return sum.Mod(sum, q)
}

// mayBe are all n with all t that may be, written out.
func mayBe(n, t int) bool {
	return slices.Contains([][2]int{{1, 0}, {2, 0}, {3, 0}, {4, 0}, {5, 0}, {6, 0}, {7, 0}, {4, 1}, {5, 1}, {6, 1}, {7, 1}, {7, 2}}, [2]int{n, t})
}

func plainCheck(n, t int, d api.Deal, node int) bool {
	if !mayBe(n, t) || node < 1 || node > n || len(d.Commits) == 0 || len(d.Commits) > 4 || len(d.Values) != n {
		return false
	}
	mine := d.Values[node-1]
	is := len(mine) == len(d.Commits)
	for i, c := range d.Commits {
		is = is && len(c) == t+1 && plainVerify(c, api.Share{At: node, V: mine[i]})
	}
	return is
}

// keyOf is k times the base, as bytes, by the library.
func keyOf(k uint64) string {
	p := plainBase(api.Num{k})
	return string(elliptic.MarshalCompressed(curve, toBig(p.X), toBig(p.Y)))
}

// isPoint asks the library.
func isPoint(body string) bool {
	x, _ := elliptic.UnmarshalCompressed(curve, []byte(body))
	return x != nil
}

func keyCommand(epoch int, body string) api.Command {
	return api.Command{Kind: 1, Epoch: epoch, Body: body}
}

func putCommand(epoch int, name, body string) api.Command {
	return api.Command{Kind: 2, Epoch: epoch, Name: name, Body: body}
}

func pruneCommand(epoch int) api.Command { return api.Command{Kind: 3, Epoch: epoch} }

// isCommand is chapter 16's rule, by its words.
func isCommand(c api.Command) bool {
	if c.Epoch < 0 || c.Epoch > 63 {
		return false
	}
	return c.Kind == 1 && c.Name == "" && len(c.Body) == 33 ||
		c.Kind == 2 && len(c.Name) >= 1 && len(c.Name) <= 16 && len(c.Body) <= 4096 ||
		c.Kind == 3 && c.Name == "" && c.Body == ""
}

// fourBytes are a number's, the highest first, by the library.
func fourBytes(n uint32) string { return string(binary.BigEndian.AppendUint32(nil, n)) }

// recordOf is the bytes of a command that may be.
func recordOf(c api.Command) string {
	var s string
	for _, field := range []string{string([]byte{byte(c.Kind)}), string([]byte{byte(c.Epoch)}), c.Name, c.Body} {
		s += fourBytes(uint32(len(field))) + field
	}
	return s
}

// commandOf is the command whose bytes these are; one that may not be, if they are those of none.
func commandOf(record string) api.Command {
	var fields []string
	for s := record; len(s) >= 4; {
		length := int(binary.BigEndian.Uint32([]byte(s)))
		if length > len(s)-4 {
			break
		}
		fields = append(fields, s[4:4+length])
		s = s[4+length:]
	}
	if len(fields) != 4 || len(fields[0]) != 1 || len(fields[1]) != 1 {
		return api.Command{}
	}
	c := api.Command{Kind: int(fields[0][0]), Epoch: int(fields[1][0]), Name: fields[2], Body: fields[3]}
	if !isCommand(c) || recordOf(c) != record {
		return api.Command{}
	}
	return c
}

// plainSum is the library's, of the same polynomial.
func plainSum(s string) uint32 {
	return crc32.Checksum([]byte(s), crc32.MakeTable(0x82F63B78))
}

func plainFrame(s string) string {
	length := fourBytes(uint32(len(s)))
	return length + fourBytes(plainSum(length+s)) + s
}

func plainFrames(l []string) string {
	var b strings.Builder
	for _, s := range l {
		b.WriteString(plainFrame(s))
	}
	return b.String()
}

// plainPrefix are the texts from the front on, up to what is no whole frame.
func plainPrefix(s string) []string {
	var l []string
	for len(s) >= 8 {
		length := binary.BigEndian.Uint32([]byte(s[:4]))
		if length > 4096 || len(s) < 8+int(length) {
			break
		}
		text := s[8 : 8+length]
		if !strings.HasPrefix(s, plainFrame(text)) {
			break
		}
		l, s = append(l, text), s[8+length:]
	}
	return l
}

// plainTear is what a crash leaves of a text whose first bytes are synced: each byte behind them is asked for its sector.
func plainTear(s string, synced int, keep uint64) string {
	b, end := []byte(s), synced
	for i := synced; i < len(b); i++ {
		k := i/64 - synced/64
		if k < 64 && keep&(1<<k) != 0 {
			end = i + 1
		} else {
			b[i] = 0
		}
	}
	return string(b[:end])
}

// middle is the one of the three between the others.
func middle(a, b, c int) int {
	l := []int{a, b, c}
	slices.Sort(l)
	return l[1]
}

// timeOf is an epoch's, by chapter 26; what may not be counts as the nearest that may.
func timeOf(begin, each, epoch int) int {
	return middle(0, begin, 1073741824) + epoch*middle(1, each, 1048576)
}

// setting is what a vault is made of.
type setting struct {
	n, t, me    int
	deals       []api.Deal
	chosen      []int
	begin, each int
}

// plainVault is the document's words, played one by one: it keeps all that was done, and finds each answer by going over that.
type plainVault struct {
	setting
	chose    []api.Deal
	records  []string      // of the log
	sure     int           // how many of them are
	done     []api.Command // what they do, of those that do something
	readings []int
	shares   map[[2]int][]api.Share // by epoch and dealer
}

// plainNew is nil where New tells ErrArg.
func plainNew(s setting) *plainVault {
	p := &plainVault{setting: s, shares: map[[2]int][]api.Share{}}
	for i, dealer := range s.chosen {
		if i > 0 && s.chosen[i-1] >= dealer || dealer < 1 || dealer > len(s.deals) {
			return nil
		}
		d := s.deals[dealer-1]
		if !plainCheck(s.n, s.t, d, s.me) {
			return nil
		}
		p.chose = append(p.chose, copyOf(d))
	}
	for _, d := range p.chose {
		if len(d.Commits) != len(p.chose[0].Commits) {
			return nil
		}
	}
	if len(p.chose) == 0 {
		return nil
	}
	return p
}

func (p *plainVault) isEpoch(epoch int) bool {
	return epoch >= 0 && epoch < len(p.chose[0].Commits)
}

// refusal is the first of the catalogue's errors that applies.
func (p *plainVault) refusal(c api.Command) api.Errno {
	if !isCommand(c) {
		return api.ErrArg
	}
	_, file := p.get(c.Name)
	type rule struct {
		is  bool
		err api.Errno
	}
	rules := [][]rule{1: {
		{c.Epoch <= p.pruned(), api.ErrPruned}, {p.hasKey(c.Epoch), api.ErrTwice}, {!isPoint(c.Body), api.ErrPoint},
	}, 2: {
		{c.Epoch <= p.pruned(), api.ErrPruned}, {!p.hasKey(c.Epoch), api.ErrNone}, {file, api.ErrTwice}, {len(p.list()) == 32, api.ErrFull},
	}, 3: nil}
	for _, x := range rules[c.Kind] {
		if x.is {
			return x.err
		}
	}
	return api.OK
}

func (p *plainVault) pruned() int {
	most := -1
	for _, c := range p.done {
		if c.Kind == 3 && c.Epoch > most {
			most = c.Epoch
		}
	}
	return most
}

func (p *plainVault) hasKey(epoch int) bool {
	return epoch > p.pruned() && slices.ContainsFunc(p.done, func(c api.Command) bool { return c.Kind == 1 && c.Epoch == epoch })
}

func (p *plainVault) get(name string) (api.Command, bool) {
	for _, c := range p.done {
		if c.Kind == 2 && c.Name == name && c.Epoch > p.pruned() {
			return c, true
		}
	}
	return api.Command{}, false
}

func (p *plainVault) list() []string {
	var l []string
	for _, c := range p.done {
		if c.Kind == 2 && c.Epoch > p.pruned() {
			l = append(l, c.Name)
		}
	}
	slices.Sort(l)
	return l
}

func (p *plainVault) do(c api.Command) api.Errno {
	if err := p.refusal(c); err != api.OK {
		return err
	}
	record := recordOf(c)
	if len(record) > 4096 || len(plainFrames(p.records))+8+len(record) > 65536 {
		return api.ErrFull
	}
	p.records, p.done = append(p.records, record), append(p.done, c)
	return api.OK
}

func (p *plainVault) sync() { p.sure = len(p.records) }

func (p *plainVault) crash(keep uint64) {
	p.records = plainPrefix(plainTear(plainFrames(p.records), len(plainFrames(p.records[:p.sure])), keep))
	p.sync()
	p.done = nil
	for _, record := range p.records {
		if c := commandOf(record); p.refusal(c) == api.OK {
			p.done = append(p.done, c)
		}
	}
	clear(p.shares)
}

func (p *plainVault) tick(now int) {
	p.readings = append(p.readings, middle(0, now, 1099511627776))
}

func (p *plainVault) emit(epoch int) ([]api.Share, api.Errno) {
	if !p.isEpoch(epoch) {
		return nil, api.ErrArg
	}
	if epoch <= p.pruned() {
		return nil, api.ErrPruned
	}
	at := timeOf(p.begin, p.each, epoch)
	if !slices.ContainsFunc(p.readings, func(now int) bool { return now >= at }) {
		return nil, api.ErrEarly
	}
	var l []api.Share
	for _, d := range p.chose {
		l = append(l, api.Share{At: p.me, V: d.Values[p.me-1][epoch]})
	}
	return l, api.OK
}

func (p *plainVault) take(epoch, dealer int, s api.Share) bool {
	if !p.isEpoch(epoch) || epoch <= p.pruned() || dealer < 0 || dealer >= len(p.chose) {
		return false
	}
	at := [2]int{epoch, dealer}
	l := p.shares[at]
	if len(l) == p.t+1 || slices.ContainsFunc(l, func(kept api.Share) bool { return kept.At == s.At }) || !plainVerify(p.chose[dealer].Commits[epoch], s) {
		return false
	}
	p.shares[at] = append(l, s)
	return true
}

// key is what the shares of an epoch of the batch make, if all of them are there.
func (p *plainVault) key(epoch int) (api.Num, bool) {
	sum := new(big.Int)
	for dealer := range p.chose {
		l := p.shares[[2]int{epoch, dealer}]
		if len(l) < p.t+1 {
			return api.Num{}, false
		}
		sum.Add(sum, plainJoin(l))
	}
	return residue(sum), true
}

func (p *plainVault) open(name string) (string, api.Errno) {
	f, is := p.get(name)
	if !is {
		return "", api.ErrNone
	}
	if !p.isEpoch(f.Epoch) {
		return "", api.ErrArg
	}
	k, is := p.key(f.Epoch)
	if !is {
		return "", api.ErrShare
	}
	return seal.Open(k, f.Body)
}

// copyOf is a deal that shares no memory with d.
func copyOf(d api.Deal) api.Deal {
	c := api.Deal{Commits: slices.Clone(d.Commits), Values: slices.Clone(d.Values)}
	for i, l := range c.Commits {
		c.Commits[i] = slices.Clone(l)
	}
	for i, l := range c.Values {
		c.Values[i] = slices.Clone(l)
	}
	return c
}

// changed is a copy of the deal, with that done to it.
func changed(d api.Deal, change func(*api.Deal)) api.Deal {
	c := copyOf(d)
	change(&c)
	return c
}

// The plain play is held against what can be told by heart, and against numbers that another program made of the document's words.
func TestPlainArithmetic(t *testing.T) {
	c := []api.Num{fromBig(digits("2eb373a53e6bb668b34bf29314e95ba1938417c0690f8526515c2bf74212de87")), fromBig(digits("33748b3600c58b65097d0453f551104e80f9bf65736ec0c04e8c99de3422631e")), fromBig(digits("5e0c4621b64ee216416f7c543ab519814e3af935e695e2f924bdc79faa770023"))}
	d := dealt(7, [][]api.Num{c})
	if x := toBig(d.Commits[0][2].X); x.Cmp(digits("2f2d99f7661bf3481c1f79e02c734352be40f0293314c12ec6457e831740f379")) != 0 {
		t.Errorf("the third point is %x", x)
	}
	for node, want := range map[int]string{1: "c03444fcf58023e3fe38733b44ef857162b8d05bc31428dfc4a68d7520ac41c8", 3: "177f8c7aa9824b5c1cae5e85053a7219e2e82e1f42424815b8c6d322eb1c73d8", 7: "973caea628ebcc5b7c0ddcfe06caaf8c0e7d6bf44d06783a68bd8a21946ed609"} {
		s := api.Share{At: node, V: d.Values[node-1][0]}
		if toBig(s.V).Cmp(digits(want)) != 0 || !plainVerify(d.Commits[0], s) || plainVerify(d.Commits[0], api.Share{At: node, V: plus(s.V, 1)}) {
			t.Errorf("at %d: %x", node, s.V)
		}
		if !plainCheck(7, 2, d, node) || plainCheck(7, 1, d, node) || plainCheck(6, 2, d, node) {
			t.Errorf("the plain Check at %d", node)
		}
	}
	if got := plainJoin([]api.Share{shareAt(c, 2), shareAt(c, 7), shareAt(c, last)}); fromBig(got) != c[0] {
		t.Errorf("they join to %x", got)
	}
	if keyOf(1) != string(digits("036b17d1f2e12c4247f8bce6e563a440f277037d812deb33a0f4a13945d898c296").Bytes()) || !isPoint(keyOf(2)) || isPoint(noKey) || counted(api.Point{X: base.X, Y: base.X}) != none {
		t.Error("points")
	}
}

func TestPlainBytes(t *testing.T) {
	put := putCommand(5, "ab", "x")
	if s := recordOf(put); s != "\x00\x00\x00\x01\x02\x00\x00\x00\x01\x05\x00\x00\x00\x02ab\x00\x00\x00\x01x" || commandOf(s) != put || commandOf(s+"\x00") != (api.Command{}) || commandOf(s[1:]) != (api.Command{}) || commandOf(zeros[:64]) != (api.Command{}) {
		t.Error("a record")
	}
	if plainSum("123456789") != 0xE3069283 || plainFrame("ab") != "\x00\x00\x00\x02"+fourBytes(plainSum("\x00\x00\x00\x02ab"))+"ab" {
		t.Error("a frame")
	}
	s := mixed(200, 1)
	for _, x := range []struct {
		synced int
		keep   uint64
		want   string
	}{{0, 0, ""}, {0, 1, s[:64]}, {0, 2, zeros[:64] + s[64:128]}, {70, 1, s[:128]}, {70, 4, s[:70] + zeros[:122] + s[192:]}, {200, 1, s}} {
		if plainTear(s, x.synced, x.keep) != x.want {
			t.Errorf("%d synced, keep %d: a tear", x.synced, x.keep)
		}
	}
	log := plainFrames([]string{"a", "", "bc"})
	for n := range len(log) + 1 {
		want := []string{"a", "", "bc"}[:min(1, n/9)+min(1, n/17)+min(1, n/27)]
		if !slices.Equal(plainPrefix(log[:n]), want) {
			t.Errorf("%d bytes: a prefix", n)
		}
	}
}

// 28.2: the plain play itself, of a row that was played by hand.
func TestPlainPlay(t *testing.T) {
	p := plainNew(standard(1, 3))
	if p == nil || plainNew(standard()) != nil || plainNew(standard(3, 1)) != nil || plainNew(standard(4)) != nil {
		t.Fatal("New")
	}
	for i, x := range []struct {
		c    api.Command
		want api.Errno
	}{
		{putCommand(0, "b", "x"), api.ErrNone}, {keyCommand(0, noKey), api.ErrPoint}, {keyCommand(0, keyOf(12)), api.OK}, {keyCommand(0, noKey), api.ErrTwice},
		{putCommand(0, "b", sealed(12, "text")), api.OK}, {putCommand(0, "b", ""), api.ErrTwice}, {putCommand(64, "c", ""), api.ErrArg},
	} {
		if err := p.do(x.c); err != x.want {
			t.Errorf("%d: %d; want %d", i, err, x.want)
		}
	}
	if _, err := p.open("b"); err != api.ErrShare {
		t.Errorf("open: %d", err)
	}
	for _, s := range []struct {
		dealer, at int
		v          uint64
		want       bool
	}{{0, 1, 8, true}, {0, 1, 8, false}, {0, 2, 12, false}, {0, 2, 11, true}, {0, 3, 14, false}, {1, 4, 15, true}, {2, 1, 8, false}, {1, 2, 11, true}} {
		if p.take(0, s.dealer, api.Share{At: s.at, V: api.Num{s.v}}) != s.want {
			t.Errorf("take: %v", s)
		}
	}
	if text, err := p.open("b"); text != "text" || err != api.OK {
		t.Errorf("open: %q, %d", text, err)
	}
	if _, err := p.emit(0); err != api.ErrEarly {
		t.Error("early")
	}
	p.tick(14)
	if l, err := p.emit(0); err != api.OK || !slices.Equal(l, []api.Share{{At: 2, V: api.Num{11}}, {At: 2, V: api.Num{11}}}) {
		t.Errorf("%v, %d", l, err)
	}
	p.sync()
	p.do(pruneCommand(0))
	if _, err := p.emit(0); err != api.ErrPruned || len(p.list()) != 0 {
		t.Error("a prune")
	}
	p.crash(0)
	if _, err := p.open("b"); err != api.ErrShare || !slices.Equal(p.list(), []string{"b"}) || !p.hasKey(0) {
		t.Error("a crash")
	}
	if _, err := p.emit(1); err != api.ErrEarly {
		t.Error("behind a crash")
	}
}
