package point_test

import (
	"crypto/elliptic"
	"math"
	"math/big"
	"testing"

	"sandglass/api"
	"sandglass/point"
)

const top = math.MaxUint64

var (
	none  = api.Point{None: true}
	curve = elliptic.P256()
	prime = curve.Params().P
	order = curve.Params().N
)

// fromBig is made of the words alone, so that no layer under the calls judges them.
func fromBig(n *big.Int) api.Num {
	var a api.Num
	word := new(big.Int).SetUint64(top)
	for i := range a {
		a[i] = new(big.Int).And(new(big.Int).Rsh(n, uint(64*i)), word).Uint64()
	}
	return a
}

func toBig(a api.Num) *big.Int {
	n := new(big.Int)
	for i := 3; i >= 0; i-- {
		n.Lsh(n, 64)
		n.Or(n, new(big.Int).SetUint64(a[i]))
	}
	return n
}

func num(hex string) api.Num {
	n, ok := new(big.Int).SetString(hex, 16)
	if !ok {
		panic(hex)
	}
	return fromBig(n)
}

// up is a + p, of an a with which that has 256 bits.
func up(a api.Num) api.Num {
	n := new(big.Int).Add(toBig(a), prime)
	if n.BitLen() > 256 {
		panic("more than 256 bits")
	}
	return fromBig(n)
}

// minus is p - a, of an a that is not 0.
func minus(a api.Num) api.Num { return fromBig(new(big.Int).Sub(prime, toBig(a))) }

// multiple is k times the base, of the library's curve; k may be less than 0.
func multiple(k *big.Int) api.Point {
	x, y := curve.ScalarBaseMult(new(big.Int).Mod(k, order).Bytes())
	if x.Sign() == 0 && y.Sign() == 0 {
		return none
	}
	return api.Point{X: fromBig(x), Y: fromBig(y)}
}

func small(k int64) api.Point { return multiple(big.NewInt(k)) }

// factors are numbers small, close to q's half, and without a pattern.
func factors() []*big.Int {
	var l []*big.Int
	half := new(big.Int).Rsh(order, 1)
	for i := int64(-4); i <= 5; i++ {
		l = append(l, big.NewInt(i), new(big.Int).Add(half, big.NewInt(i)))
	}
	state := uint64(4)
	for range 12 {
		var a api.Num
		for i := range a {
			state = state*6364136223846793005 + 1442695040888963407
			a[i] = state ^ state>>29
		}
		l = append(l, toBig(a))
	}
	return l
}

// Points with the least and the greatest X that have a second name of 256 bits, and points with such a Y; the three with the Y 1 stand on one line.
var (
	x0   = api.Point{Y: num("66485c780e2f83d72433bd5d84a06bb6541c2af31dae871728bf856a174f93f4")}
	x5   = api.Point{X: api.Num{5}, Y: num("459243b9aa581806fe913bce99817ade11ca503c64d9a3c533415c083248fbcc")}
	xTop = api.Point{X: num("fffffffefffffffffffffffffffffffeffffffffffffffffffffffff"), Y: num("32cb4ef022ad7f5fd974cdcdadb35451bc5d69eb7d2b5b1a40ab1b5da29226d9")}
	y1a  = api.Point{X: num("8d0177ebab9c6e9e10db6dd095dbac0d6375e8a97b70f611875d877f0069d2c7"), Y: api.Num{1}}
	y1b  = api.Point{X: num("09e78d4ef60d05f750f6636209092bc43cbdd6b47e11a9de20a9feb2a50bb96c"), Y: api.Num{1}}
	y1c  = api.Point{X: num("6916fac45e568b6b9e2e2ecd611b282e5fcc40a3067d601057f879ce5a8a73cc"), Y: api.Num{1}}
	yTop = api.Point{X: num("79ed2d9c274a4fca3812195eca6784f4d2d29934757d4ceea16784c872b747e6"), Y: num("fffffffefffffffffffffffffffffffeffffffffffffffffffffffff")}
)

func special() []api.Point {
	return []api.Point{x0, x5, xTop, y1a, y1b, y1c, yTop}
}

// wrong are points for which On is false.
func wrong() []api.Point {
	b := point.Base()
	most := api.Num{top, top, top, top}
	p := fromBig(prime)
	l := []api.Point{
		{}, {X: api.Num{1}}, {Y: api.Num{1}}, {X: api.Num{1}, Y: api.Num{1}},
		{X: b.X}, {Y: b.Y}, {X: b.Y, Y: b.X}, {X: b.X, Y: b.X},
		{X: p}, {Y: p}, {X: p, Y: p}, {X: most}, {Y: most}, {X: most, Y: most},
		{X: p, Y: b.Y}, {X: b.X, Y: p}, {X: most, Y: b.Y}, {X: b.X, Y: most},
		{X: api.Num{1}, None: true}, {Y: api.Num{1}, None: true}, {X: b.X, Y: b.Y, None: true},
		{X: p, None: true}, {Y: p, None: true}, {X: p, Y: p, None: true},
		{X: most, None: true}, {Y: most, None: true}, {X: most, Y: most, None: true},
		{X: up(x0.X), Y: x0.Y}, {X: up(x0.X), Y: minus(x0.Y)},
		{X: up(x5.X), Y: x5.Y}, {X: up(xTop.X), Y: xTop.Y}, {X: up(xTop.X), Y: minus(xTop.Y)},
		{X: y1a.X, Y: up(y1a.Y)}, {X: y1b.X, Y: up(y1b.Y)}, {X: y1c.X, Y: up(y1c.Y)},
		{X: yTop.X, Y: up(yTop.Y)},
	}
	for word := range 4 {
		var bit api.Num
		bit[word] = 1
		var highBit api.Num
		highBit[word] = 1 << 63
		l = append(l, api.Point{X: bit, None: true}, api.Point{Y: bit, None: true}, api.Point{X: highBit, None: true}, api.Point{Y: highBit, None: true})
		x, y := b, b
		x.X[word]++
		y.Y[word]++
		l = append(l, x, y)
		x, y = b, b
		x.X[word]--
		y.Y[word]--
		l = append(l, x, y)
	}
	return l
}

// sound: what is handed out is None with 0s, or lies on the library's curve.
func sound(t *testing.T, what string, p api.Point) {
	t.Helper()
	if p.None {
		if p != none {
			t.Errorf("%s: None with %x, %x", what, p.X, p.Y)
		}
		return
	}
	x, y := toBig(p.X), toBig(p.Y)
	if x.Cmp(prime) >= 0 || y.Cmp(prime) >= 0 || !curve.IsOnCurve(x, y) {
		t.Errorf("%s: %x, %x isn't on the curve", what, p.X, p.Y)
	}
}

func TestBase(t *testing.T) {
	want := api.Point{
		X: num("6b17d1f2e12c4247f8bce6e563a440f277037d812deb33a0f4a13945d898c296"),
		Y: num("4fe342e2fe1a7f9b8ee7eb4a7c0f9e162bce33576b315ececbb6406837bf51f5"),
	}
	if point.Base() != want {
		t.Errorf("%v", point.Base())
	}
}

func TestBaseIsFresh(t *testing.T) {
	b := point.Base()
	b.X[0], b.None = 0, true
	if point.Base() != small(1) {
		t.Errorf("%v", point.Base())
	}
}

func TestOn(t *testing.T) {
	if !point.On(none) {
		t.Error("None with 0s")
	}
	for _, k := range factors() {
		if !point.On(multiple(k)) {
			t.Errorf("%v times the base", k)
		}
	}
	for i, p := range special() {
		if !point.On(p) || !point.On(api.Point{X: p.X, Y: minus(p.Y)}) {
			t.Errorf("special %d: %v", i, p)
		}
	}
	for i, p := range wrong() {
		if point.On(p) {
			t.Errorf("wrong %d: %v", i, p)
		}
	}
}

// TestOnManyX asks of X in a row with both Y of a library's root, and with Y beside them.
func TestOnManyX(t *testing.T) {
	b := curve.Params().B
	for x := int64(0); x < 60; x++ {
		square := big.NewInt(x*x*x - 3*x)
		square.Mod(square.Add(square, b), prime)
		root := new(big.Int).ModSqrt(square, prime)
		if root == nil {
			root = big.NewInt(1)
		}
		for _, d := range []int64{-1, 0, 1} {
			y := new(big.Int).Add(root, big.NewInt(d))
			want := new(big.Int).Mod(new(big.Int).Mul(y, y), prime).Cmp(square) == 0
			p := api.Point{X: fromBig(big.NewInt(x)), Y: fromBig(y)}
			if point.On(p) != want {
				t.Errorf("%d, %v: not %v", x, y, want)
			}
		}
	}
}

func TestAdd(t *testing.T) {
	for _, a := range factors() {
		for _, b := range factors() {
			want := multiple(new(big.Int).Add(a, b))
			if got := point.Add(multiple(a), multiple(b)); got != want {
				t.Errorf("%v and %v: %v, not %v", a, b, got, want)
			}
		}
	}
}

func TestAddSelfAndOpposite(t *testing.T) {
	for _, k := range factors() {
		p, opposite := multiple(k), multiple(new(big.Int).Neg(k))
		if got := point.Add(p, p); got != multiple(new(big.Int).Lsh(k, 1)) {
			t.Errorf("%v and itself: %v", k, got)
		}
		if got := point.Add(p, opposite); got != none {
			t.Errorf("%v and its opposite: %v", k, got)
		}
	}
	for i, p := range special() {
		if got := point.Add(p, api.Point{X: p.X, Y: minus(p.Y)}); got != none {
			t.Errorf("special %d and its opposite: %v", i, got)
		}
	}
}

func TestAddNone(t *testing.T) {
	for _, p := range append(special(), small(1), small(7), none) {
		if point.Add(none, p) != p || point.Add(p, none) != p {
			t.Errorf("None and %v", p)
		}
	}
}

// TestAddSameY: a line along the X, on which stand three points.
func TestAddSameY(t *testing.T) {
	three := []api.Point{y1a, y1b, y1c}
	for i := range three {
		p, q, r := three[i], three[(i+1)%3], three[(i+2)%3]
		want := api.Point{X: r.X, Y: minus(r.Y)}
		if got := point.Add(p, q); got != want {
			t.Errorf("%d: %v, not %v", i, got, want)
		}
		if got := point.Add(point.Add(p, q), r); got != none {
			t.Errorf("%d: three of a line: %v", i, got)
		}
	}
}

func TestAddSpecial(t *testing.T) {
	l := append(special(), small(1), small(-2))
	for _, p := range l {
		for _, q := range l {
			x, y := curve.Add(toBig(p.X), toBig(p.Y), toBig(q.X), toBig(q.Y))
			if got := point.Add(p, q); got != (api.Point{X: fromBig(x), Y: fromBig(y)}) {
				t.Errorf("%v and %v: %v", p, q, got)
			}
		}
	}
}

func TestAddWrong(t *testing.T) {
	for i, w := range wrong() {
		for _, p := range []api.Point{small(1), x0, x5, xTop, y1a, yTop, none} {
			if got := point.Add(w, p); got != p {
				t.Errorf("wrong %d and %v: %v", i, p, got)
			}
			if got := point.Add(p, w); got != p {
				t.Errorf("%v and wrong %d: %v", p, i, got)
			}
		}
		for j, v := range wrong() {
			if got := point.Add(w, v); got != none {
				t.Errorf("wrong %d and wrong %d: %v", i, j, got)
			}
		}
	}
}

func TestDouble(t *testing.T) {
	for _, k := range factors() {
		if got := point.Double(multiple(k)); got != multiple(new(big.Int).Lsh(k, 1)) {
			t.Errorf("twice %v: %v", k, got)
		}
	}
	for i, p := range special() {
		x, y := curve.Double(toBig(p.X), toBig(p.Y))
		if got := point.Double(p); got != (api.Point{X: fromBig(x), Y: fromBig(y)}) {
			t.Errorf("twice special %d: %v", i, got)
		}
	}
	if got := point.Double(none); got != none {
		t.Errorf("twice None: %v", got)
	}
	for i, w := range wrong() {
		if got := point.Double(w); got != none {
			t.Errorf("twice wrong %d: %v", i, got)
		}
	}
}

// TestDoubleToTheOrder goes from the base by the bits of q to None, by doublings and sums alone.
func TestDoubleToTheOrder(t *testing.T) {
	sum := none
	for i := order.BitLen() - 1; i >= 0; i-- {
		sum = point.Double(sum)
		if order.Bit(i) == 1 {
			sum = point.Add(sum, point.Base())
		}
		sound(t, "on the way to q", sum)
	}
	if sum != none {
		t.Errorf("%v", sum)
	}
}

func TestNeg(t *testing.T) {
	for _, k := range factors() {
		if got := point.Neg(multiple(k)); got != multiple(new(big.Int).Neg(k)) {
			t.Errorf("opposite of %v: %v", k, got)
		}
	}
	for i, p := range special() {
		if got := point.Neg(p); got != (api.Point{X: p.X, Y: minus(p.Y)}) {
			t.Errorf("opposite of special %d: %v", i, got)
		}
		if got := point.Neg(point.Neg(p)); got != p {
			t.Errorf("special %d back: %v", i, got)
		}
	}
	if got := point.Neg(none); got != none {
		t.Errorf("opposite of None: %v", got)
	}
	for i, w := range wrong() {
		if got := point.Neg(w); got != none {
			t.Errorf("opposite of wrong %d: %v", i, got)
		}
	}
}

func TestSame(t *testing.T) {
	l := append(special(), small(1), small(2), small(-1), small(-2), none)
	for i, p := range l {
		for j, q := range l {
			if point.Same(p, q) != (i == j) {
				t.Errorf("%v and %v: not %v", p, q, i == j)
			}
		}
	}
	for i, p := range special() {
		if point.Same(p, api.Point{X: p.X, Y: minus(p.Y)}) {
			t.Errorf("special %d and its opposite", i)
		}
	}
}

func TestSameWrong(t *testing.T) {
	for i, w := range wrong() {
		if !point.Same(w, none) || !point.Same(none, w) {
			t.Errorf("wrong %d and None", i)
		}
		for _, p := range append(special(), small(1)) {
			if point.Same(w, p) || point.Same(p, w) {
				t.Errorf("wrong %d and %v", i, p)
			}
		}
		for j, v := range wrong() {
			if !point.Same(w, v) {
				t.Errorf("wrong %d and wrong %d", i, j)
			}
		}
	}
}

func TestGroup(t *testing.T) {
	var l []api.Point
	for k := int64(-3); k <= 5; k++ {
		l = append(l, small(k))
	}
	l = append(l, x5, y1a, yTop, api.Point{X: api.Num{1}})
	for _, p := range l {
		for _, q := range l {
			sum := point.Add(p, q)
			if sum != point.Add(q, p) {
				t.Errorf("%v and %v: otherwise the other way round", p, q)
			}
			for _, r := range l {
				if left, right := point.Add(sum, r), point.Add(p, point.Add(q, r)); left != right {
					t.Errorf("%v, %v, %v: %v and %v", p, q, r, left, right)
				}
			}
		}
	}
}

// TestHandedOut: whatever comes in, what goes out is on the curve, or None with 0s.
func TestHandedOut(t *testing.T) {
	sound(t, "base", point.Base())
	l := append(wrong(), special()...)
	l = append(l, none, small(1), small(2), small(-1))
	for _, p := range l {
		sound(t, "double", point.Double(p))
		sound(t, "neg", point.Neg(p))
		for _, q := range l {
			sound(t, "add", point.Add(p, q))
		}
	}
}

func BenchmarkAdd(b *testing.B) {
	p, q := small(5), small(9)
	for b.Loop() {
		p = point.Add(p, q)
	}
}

func BenchmarkDouble(b *testing.B) {
	p := small(5)
	for b.Loop() {
		p = point.Double(p)
	}
}
