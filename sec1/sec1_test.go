package sec1_test

import (
	"crypto/elliptic"
	"encoding/hex"
	"math"
	"math/big"
	"strings"
	"testing"

	"sandglass/api"
	"sandglass/point"
	"sandglass/sec1"
)

const top = math.MaxUint64

var (
	curve = elliptic.P256()
	prime = curve.Params().P
	base  = fromCurve(curve.Params().Gx, curve.Params().Gy)
	full  = new(big.Int).Lsh(big.NewInt(1), 256)
)

// fromBig is made of the words alone, so that no layer under the calls judges them.
func fromBig(n *big.Int) api.Num {
	var a api.Num
	word := new(big.Int).SetUint64(top)
	for i := range a {
		a[i] = new(big.Int).And(new(big.Int).Rsh(n, uint(64*i)), word).Uint64()
	}
	return a
}

func toBig(a api.Num) *big.Int {
	n := new(big.Int)
	for i := 3; i >= 0; i-- {
		n.Lsh(n, 64)
		n.Or(n, new(big.Int).SetUint64(a[i]))
	}
	return n
}

func digits(s string) *big.Int {
	n, ok := new(big.Int).SetString(s, 16)
	if !ok {
		panic(s)
	}
	return n
}

func fromCurve(x, y *big.Int) api.Point { return api.Point{X: fromBig(x), Y: fromBig(y)} }

// plus is n + i.
func plus(n *big.Int, i int64) *big.Int { return new(big.Int).Add(n, big.NewInt(i)) }

// opposite is p with p - Y for Y, which is not 0.
func opposite(p api.Point) api.Point {
	return api.Point{X: p.X, Y: fromBig(new(big.Int).Sub(prime, toBig(p.Y)))}
}

// written is the text with that first byte, and n of 256 bits behind it.
func written(first byte, n *big.Int) string {
	return string(append([]byte{first}, n.FillBytes(make([]byte, 32))...))
}

// firstByte is 2, if Y is even, else 3.
func firstByte(p api.Point) byte { return 2 + byte(toBig(p.Y).Bit(0)) }

// withX is a point whose X is x (the even one), and whether there is one.
func withX(x *big.Int) (api.Point, bool) {
	square := new(big.Int).Exp(x, big.NewInt(3), prime)
	square.Sub(square, new(big.Int).Mul(big.NewInt(3), x))
	square.Add(square, curve.Params().B)
	square.Mod(square, prime)
	y := new(big.Int).ModSqrt(square, prime)
	if y == nil {
		return api.Point{}, false
	}
	if y.Bit(0) == 1 {
		y.Sub(prime, y)
	}
	return fromCurve(x, y), true
}

// randoms are n numbers of 256 bits without a pattern.
func randoms(n int, seed uint64) []*big.Int {
	var l []*big.Int
	for range n {
		var a api.Num
		for j := range a {
			seed = seed*6364136223846793005 + 1442695040888963407
			a[j] = seed ^ seed>>29
		}
		l = append(l, toBig(a))
	}
	return l
}

// numbers are such less than p: at its ends, at those of the words, with bytes of 0 ahead, and without a pattern.
func numbers() []*big.Int {
	var l []*big.Int
	for i := int64(0); i < 40; i++ {
		l = append(l, big.NewInt(i), plus(prime, -1-i))
	}
	for i := uint(8); i < 256; i += 8 {
		power := new(big.Int).Lsh(big.NewInt(1), i)
		for j := int64(-3); j <= 3; j++ {
			l = append(l, plus(power, j))
		}
	}
	for i, n := range randoms(96, 6) {
		n.Rsh(n, uint(i%32*8))
		l = append(l, n.Mod(n, prime))
	}
	return l
}

// points are the base, multiples of it, points with a small X or Y, and points of the numbers; each with its opposite.
func points() []api.Point {
	l := []api.Point{base}
	for k := int64(2); k <= 20; k++ {
		l = append(l, fromCurve(curve.ScalarBaseMult(big.NewInt(k).Bytes())))
	}
	for _, k := range randoms(20, 3) {
		l = append(l, fromCurve(curve.ScalarBaseMult(new(big.Int).Mod(k, curve.Params().N).Bytes())))
	}
	one := big.NewInt(1)
	most := digits("fffffffefffffffffffffffffffffffeffffffffffffffffffffffff")
	l = append(l,
		fromCurve(digits("8d0177ebab9c6e9e10db6dd095dbac0d6375e8a97b70f611875d877f0069d2c7"), one),
		fromCurve(digits("09e78d4ef60d05f750f6636209092bc43cbdd6b47e11a9de20a9feb2a50bb96c"), one),
		fromCurve(digits("6916fac45e568b6b9e2e2ecd611b282e5fcc40a3067d601057f879ce5a8a73cc"), one),
		fromCurve(digits("79ed2d9c274a4fca3812195eca6784f4d2d29934757d4ceea16784c872b747e6"), most),
	)
	for _, x := range numbers() {
		if p, is := withX(x); is {
			l = append(l, p)
		}
	}
	for _, p := range l {
		l = append(l, opposite(p))
	}
	return l
}

// counted are points that count as None, and None.
func counted() []api.Point {
	b, p, most := base, fromBig(prime), api.Num{top, top, top, top}
	x0, _ := withX(new(big.Int))
	x5, _ := withX(big.NewInt(5))
	l := []api.Point{
		{None: true}, {}, {X: api.Num{1}}, {Y: api.Num{1}}, {X: api.Num{1}, Y: api.Num{1}},
		{X: b.X}, {Y: b.Y}, {X: b.Y, Y: b.X}, {X: b.X, Y: b.X},
		{X: p}, {Y: p}, {X: p, Y: p}, {X: most}, {Y: most}, {X: most, Y: most},
		{X: p, Y: b.Y}, {X: b.X, Y: p}, {X: most, Y: b.Y}, {X: b.X, Y: most},
		{X: b.X, Y: b.Y, None: true}, {X: b.X, None: true}, {Y: b.Y, None: true}, {X: api.Num{1}, None: true},
		{X: p, Y: x0.Y}, {X: p, Y: opposite(x0).Y},
		{X: fromBig(plus(prime, 5)), Y: x5.Y}, {X: fromBig(plus(prime, 5)), Y: opposite(x5).Y},
		// The Y of this point is 1, with p added to it.
		{X: fromBig(digits("8d0177ebab9c6e9e10db6dd095dbac0d6375e8a97b70f611875d877f0069d2c7")), Y: fromBig(plus(prime, 1))},
	}
	for word := range 4 {
		x, y := b, b
		x.X[word]++
		y.Y[word]++
		l = append(l, x, y)
		x, y = b, b
		x.X[word]--
		y.Y[word]--
		l = append(l, x, y)
	}
	return l
}

// refused checks that s is refused with want, and that the point beside it is of 0s.
func refused(t *testing.T, s string, want api.Errno) {
	t.Helper()
	if p, err := sec1.Decode(s); err != want || p != (api.Point{}) {
		t.Errorf("Decode(%x): %v, %d; want error %d", s, p, err, want)
	}
}

// read checks that s is read as want.
func read(t *testing.T, s string, want api.Point) {
	t.Helper()
	p, err := sec1.Decode(s)
	if err != api.OK || p != want {
		t.Errorf("Decode(%x): %v, %d; want %v", s, p, err, want)
		return
	}
	if !curve.IsOnCurve(toBig(p.X), toBig(p.Y)) || !point.On(p) {
		t.Errorf("Decode(%x): %v is not on the curve", s, p)
	}
}

// 6.1: the base's text, with its first byte 3, and its opposite's.
func TestBase(t *testing.T) {
	const x = "6b17d1f2e12c4247f8bce6e563a440f277037d812deb33a0f4a13945d898c296"
	for _, c := range []struct {
		p    api.Point
		want string
	}{{point.Base(), "03" + x}, {point.Neg(point.Base()), "02" + x}} {
		s, err := sec1.Encode(c.p)
		if hex.EncodeToString([]byte(s)) != c.want || err != api.OK {
			t.Errorf("Encode(%v): %x, %d; want %s", c.p, s, err, c.want)
		}
		read(t, s, c.p)
	}
}

// 6.1: Encode and Decode of points; the first byte says which of the two with an X it is.
func TestPoints(t *testing.T) {
	evens := 0
	for _, p := range points() {
		x, y := toBig(p.X), toBig(p.Y)
		want := string(elliptic.MarshalCompressed(curve, x, y))
		s, err := sec1.Encode(p)
		if s != want || s != written(firstByte(p), x) || err != api.OK {
			t.Errorf("Encode(%v): %x, %d; want %x", p, s, err, want)
		}
		read(t, want, p)
		read(t, written(2^3^firstByte(p), x), opposite(p))
		if firstByte(p) == 2 {
			evens++
		}
	}
	if all := len(points()); evens*2 != all || all < 200 {
		t.Errorf("%d points, %d of them even: too few to judge by", all, evens)
	}
}

// 6.1: Encode of what counts as None.
func TestEncodeRefuses(t *testing.T) {
	for _, p := range counted() {
		if s, err := sec1.Encode(p); s != "" || err != api.ErrPoint {
			t.Errorf("Encode(%v): %x, %d; want no text and ErrPoint", p, s, err)
		}
	}
}

// 6.1: Decode of texts that have not 33 bytes, whatever they are.
func TestDecodeSize(t *testing.T) {
	s := written(3, curve.Params().Gx)
	for n := range 100 {
		if n == len(s) {
			continue
		}
		for _, b := range []string{"\x00", "\x02", "\x03", "\x04", "\xff"} {
			refused(t, strings.Repeat(b, n), api.ErrSize)
		}
		refused(t, (s + s + s + s)[:n], api.ErrSize)
	}
	for _, x := range []string{"", s[1:], s[:32], s + "\x00", "\x00" + s, s + s, s + s[1:], strings.Repeat(s, 4096)} {
		refused(t, x, api.ErrSize)
	}
	// 65 bytes of a point with its Y are no text of this form.
	refused(t, string(elliptic.Marshal(curve, curve.Params().Gx, curve.Params().Gy)), api.ErrSize)
}

// 6.1: Decode of texts that begin with another byte than 2 and 3, whatever the rest is.
func TestDecodeSyntax(t *testing.T) {
	none := big.NewInt(1)
	if _, is := withX(none); is {
		t.Fatal("there is a point of the x that should have none")
	}
	for first := range 256 {
		if first == 2 || first == 3 {
			continue
		}
		for _, x := range []*big.Int{curve.Params().Gx, new(big.Int), none, plus(prime, -1), prime, plus(prime, 1), plus(full, -1)} {
			refused(t, written(byte(first), x), api.ErrSyntax)
		}
	}
}

// 6.1: Decode of a rest that is not less than p, also where there is a point of what it is modulo p.
func TestDecodeGreat(t *testing.T) {
	l := []*big.Int{plus(full, -1), plus(full, -2)}
	for i := int64(0); i < 40; i++ {
		l = append(l, plus(prime, i))
	}
	for word := uint(0); word < 256; word += 64 {
		l = append(l, new(big.Int).Or(prime, new(big.Int).Lsh(big.NewInt(1), word+63)))
		l = append(l, new(big.Int).Or(prime, new(big.Int).Lsh(big.NewInt(1), word+40)))
	}
	withPoint := 0
	for _, x := range l {
		if x.Cmp(prime) < 0 || x.BitLen() > 256 {
			t.Fatalf("%x is less than p, or of more than 256 bits", x)
		}
		if _, is := withX(new(big.Int).Sub(x, prime)); is {
			withPoint++
		}
		refused(t, written(2, x), api.ErrPoint)
		refused(t, written(3, x), api.ErrPoint)
	}
	if withPoint == 0 {
		t.Error("none of the numbers has a point modulo p")
	}
}

// 6.1: Decode of numbers less than p: the point, if there is one of that x, and else ErrPoint.
func TestDecodeNumbers(t *testing.T) {
	with, without := 0, 0
	for _, x := range numbers() {
		p, is := withX(x)
		if !is {
			without++
			refused(t, written(2, x), api.ErrPoint)
			refused(t, written(3, x), api.ErrPoint)
			continue
		}
		with++
		read(t, written(2, x), p)
		read(t, written(3, x), opposite(p))
	}
	if with < 100 || without < 100 {
		t.Errorf("%d numbers with a point, %d without: too few to judge by", with, without)
	}
}

// T7: what is read is written just so.
func TestReadIsWritten(t *testing.T) {
	for _, x := range append(numbers(), randoms(100, 9)...) {
		for _, first := range []byte{2, 3} {
			s := written(first, x)
			p, err := sec1.Decode(s)
			if err != api.OK {
				continue
			}
			if back, err := sec1.Encode(p); back != s || err != api.OK {
				t.Errorf("Decode(%x) is %v, whose text is %x, %d", s, p, back, err)
			}
		}
	}
}
