package vault_test

import (
	"strconv"
	"testing"

	"sandglass/api"
)

// 28.2: names that are there and are not, whatever shares came in.
func TestOpenNames(t *testing.T) {
	t.Parallel()
	x := newPair(t, standard(1, 2))
	names := []string{"", "f", "F", "f ", "\x00", "ff", zeros[:16], zeros[:17], mixed(500, 3)}
	for _, name := range names {
		x.open(t, name, "", api.ErrNone)
	}
	x.doAll(t, keyCommand(0, keyOf(7)), keyCommand(1, keyOf(5)), putCommand(0, "f", sealed(7, "of f")), putCommand(1, zeros[:16], sealed(5, "of zeros")), putCommand(0, "\x00", sealed(7, "")))
	x.open(t, "f", "", api.ErrShare)
	x.open(t, "F", "", api.ErrNone)
	x.takeAll(t, 0, polynomials()[:2]...)
	x.open(t, zeros[:16], "", api.ErrShare)
	x.takeAll(t, 1, polynomials()[:2]...)
	for range 2 {
		x.open(t, "f", "of f", api.OK)
		x.open(t, zeros[:16], "of zeros", api.OK)
		x.open(t, "\x00", "", api.OK)
		for _, name := range []string{"", "F", "f ", "ff", zeros[:15], zeros[:17], mixed(500, 3)} {
			x.open(t, name, "", api.ErrNone)
		}
	}
	x.doAll(t, pruneCommand(0))
	x.open(t, "f", "", api.ErrNone)
	x.open(t, zeros[:16], "of zeros", api.OK)
}

// 28.2: the five answers come in their order, where two apply at once.
func TestOpenOrder(t *testing.T) {
	t.Parallel()
	x := newPair(t, standard(1, 2))
	x.doAll(t, keyCommand(0, keyOf(7)), keyCommand(2, keyOf(7)), keyCommand(63, keyOf(5)))
	x.doAll(t, putCommand(2, "beyond", sealed(7, "x")), putCommand(63, "bad beyond", "bad"), putCommand(0, "bad", "bad"), putCommand(0, "good", sealed(7, "text")))
	x.open(t, "bad beyond", "", api.ErrArg) // beyond the batch, without shares, with a body that is none
	x.open(t, "beyond", "", api.ErrArg)
	x.open(t, "bad", "", api.ErrShare) // without shares, with a body that is none
	x.open(t, "good", "", api.ErrShare)
	x.takeAll(t, 0, polynomials()[:2]...)
	x.open(t, "bad beyond", "", api.ErrArg)
	x.open(t, "beyond", "", api.ErrArg)
	x.open(t, "bad", "", api.ErrSize)
	x.open(t, "good", "text", api.OK)
	x.doAll(t, pruneCommand(2))
	x.open(t, "beyond", "", api.ErrNone)
	x.open(t, "bad beyond", "", api.ErrArg)
	x.open(t, "good", "", api.ErrNone)
}

// 28.2: ErrShare till the last share of the last dealer is there; shares of another epoch do not help.
func TestOpenShares(t *testing.T) {
	t.Parallel()
	dealers := polynomials()
	x := newPair(t, standard(1, 2, 3))
	x.doAll(t, keyCommand(0, keyOf(14)), keyCommand(1, keyOf(15)), putCommand(0, "f", sealed(14, "of f")), putCommand(1, "g", sealed(15, "of g")))
	x.takeAll(t, 1, dealers...)
	x.open(t, "g", "of g", api.OK)
	for dealer, places := range [][]int{{4, 9}, {1, 2}, {last, 3}} {
		for _, place := range places {
			x.open(t, "f", "", api.ErrShare)
			x.take(t, 0, dealer, shareAt(dealers[dealer][0], place), true)
			x.take(t, 0, dealer, shareAt(dealers[dealer][0], place), false)
		}
	}
	x.open(t, "f", "of f", api.OK)
	x.open(t, "g", "of g", api.OK)
}

// 28.2, 12.2: what is told of bodies that the epoch's key opens, and of such as it does not.
func TestOpenBodies(t *testing.T) {
	t.Parallel()
	good := sealed(7, mixed(300, 1))
	alter := func(at int) string {
		b := []byte(good)
		b[at] ^= 1
		return string(b)
	}
	x := newPair(t, standard(1, 2))
	x.doAll(t, keyCommand(0, keyOf(7)), keyCommand(1, keyOf(5)))
	x.takeAll(t, 0, polynomials()[:2]...)
	x.takeAll(t, 1, polynomials()[:2]...)
	long := mixed(2048, 2)
	for i, row := range []struct {
		body, text string
		want       api.Errno
	}{
		{good, mixed(300, 1), api.OK}, {sealed(7, ""), "", api.OK}, {sealed(7, long), long, api.OK},
		{sealed(5, "x"), "", api.ErrSum}, {sealed(8, "x"), "", api.ErrSum}, {alter(len(good) - 1), "", api.ErrSum}, {alter(41), "", api.ErrSum},
		{alter(0), "", api.ErrSyntax}, {alter(3), "", api.ErrSyntax}, {alter(38), "", api.ErrSyntax}, {alter(40), "", api.ErrSize}, {alter(4), "", api.ErrSum},
		{good[:4] + "\x04" + good[5:], "", api.ErrSyntax}, {good[:4] + "\x02" + string(toBig(greatest).Bytes()) + good[37:], "", api.ErrPoint},
		{"", "", api.ErrSize}, {"x", "", api.ErrSize}, {good[:40], "", api.ErrSize}, {zeros[:40], "", api.ErrSize}, {zeros[:41], "", api.ErrSyntax}, {good[:len(good)-1], "", api.ErrSize}, {good + "\x00", "", api.ErrSize}, {zeros[:4000], "", api.ErrSyntax},
	} {
		name := "body " + strconv.Itoa(i)
		x.do(t, putCommand(0, name, row.body), api.OK)
		x.open(t, name, row.text, row.want)
	}
	// Each epoch has its own key.
	x.do(t, putCommand(1, "of 1", sealed(5, "five")), api.OK)
	x.do(t, putCommand(1, "of 0", sealed(7, "seven")), api.OK)
	x.open(t, "of 1", "five", api.OK)
	x.open(t, "of 0", "", api.ErrSum)
}

// 28.2: the catalogue's key has no say in what is opened: the shares' key does it.
func TestOpenOtherKey(t *testing.T) {
	x := newPair(t, standard(2, 3))
	x.doAll(t, keyCommand(0, keyOf(1000)), putCommand(0, "f", sealed(9, "of nine")), putCommand(0, "g", sealed(1000, "of the catalogue's")))
	x.takeAll(t, 0, polynomials()[1:]...)
	x.open(t, "f", "of nine", api.OK)
	x.open(t, "g", "", api.ErrSum)
}

// 28.2, 12.2: a key that comes out 0 opens nothing: ErrArg, and that ahead of the body's errors.
func TestOpenKeyOfZero(t *testing.T) {
	t.Parallel()
	for _, dealers := range [][][][]api.Num{
		{{{{}, {3}}}},
		{{{{5}, {3}}}, {{plus(api.Num{}, -5), {1}}}},
		{{{{5}, {3}}}, {{{1}, {}}}, {{plus(api.Num{}, -6), {2}}}},
	} {
		s := setting{n: 4, t: 1, me: 1, deals: dealsOf(4, dealers)}
		for dealer := range dealers {
			s.chosen = append(s.chosen, dealer+1)
		}
		x := newPair(t, s)
		x.doAll(t, keyCommand(0, keyOf(1)), putCommand(0, "f", sealed(1, "x")), putCommand(0, "bad", "x"), putCommand(0, "empty", ""))
		x.open(t, "f", "", api.ErrShare)
		x.takeAll(t, 0, dealers...)
		for _, name := range []string{"f", "bad", "empty"} {
			x.open(t, name, "", api.ErrArg)
		}
		x.open(t, "none", "", api.ErrNone)
	}
}

// 28.2: what is read changes nothing, and R4: what is done to an answer's list has no say.
func TestOpenAgain(t *testing.T) {
	x := newPair(t, standard(1, 2))
	x.doAll(t, keyCommand(0, keyOf(7)), putCommand(0, "f", sealed(7, "of f")), putCommand(0, "g", sealed(7, "of g")))
	x.takeAll(t, 0, polynomials()[:2]...)
	l := x.v.List()
	l[0], l[1] = "x", "y"
	_ = append(l[:0], "z")
	for range 3 {
		x.open(t, "f", "of f", api.OK)
		x.list(t, "f", "g")
		x.open(t, "x", "", api.ErrNone)
	}
	x.check(t)
}
