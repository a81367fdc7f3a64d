package ledger_test

import (
	"strings"
	"testing"

	"sandglass/api"
	"sandglass/ledger"
)

// fullOf are MaxFiles files, by turns of these epochs, whose keys go ahead of them.
func fullOf(epochs ...int) []api.Command {
	var l []api.Command
	for _, epoch := range epochs {
		l = append(l, keyCommand(epoch, keyA))
	}
	for i := range 32 {
		l = append(l, putCommand(epochs[i%len(epochs)], string([]byte{'f', byte(i)}), mixed(i, 1)))
	}
	return l
}

// somePairs are catalogues in which nothing is, something of each kind, as much as may be, and in which all is pruned.
func somePairs(t *testing.T) []pair {
	t.Helper()
	return []pair{
		newPair(t),
		newPair(t, keyCommand(0, keyA), putCommand(0, "a", "x"), keyCommand(63, keyB), putCommand(63, "b", "")),
		newPair(t, fullOf(0, 1, 62, 63)...),
		newPair(t, append(fullOf(5, 63), pruneCommand(4))...),
		newPair(t, append(fullOf(0, 1, 62, 63), pruneCommand(62))...),
		newPair(t, pruneCommand(63)),
	}
}

// 24.1: kinds, epochs, names and bodies at their edges and far off, each with each: what chapter 16 refuses is ErrArg, whatever else applies, and changes nothing.
func TestRefusedCommands(t *testing.T) {
	kinds := append([]int{-3, -2, -1, 0, 1, 2, 3, 4, 5}, farInts()...)
	epochs := append([]int{-1, 0, 1, 5, 62, 63, 64, 65}, farInts()...)
	var refused []api.Command
	for _, kind := range kinds {
		for _, epoch := range epochs {
			for _, name := range []string{"", "a", zeros[:16], zeros[:17]} {
				for _, body := range []string{"", "x", keyA[:32], keyA, noKey, keyA + "\x00", zeros[:4096], zeros[:4097]} {
					c := api.Command{Kind: kind, Epoch: epoch, Name: name, Body: body}
					if !isCommand(c) {
						refused = append(refused, c)
					}
				}
			}
		}
	}
	for i, x := range somePairs(t) {
		for _, c := range refused {
			if got := x.l.Do(c); got != api.ErrArg {
				t.Errorf("catalogue %d: kind %d, epoch %d, name of %d, body of %d bytes: %d", i, c.Kind, c.Epoch, len(c.Name), len(c.Body), got)
			}
		}
		x.check(t)
	}
}

// 24.1: each reason for which chapter 16 refuses a command, alone, and beside other errors that would apply; asked ahead and behind.
func TestEachRefusal(t *testing.T) {
	var l []api.Command
	for _, kind := range append([]int{0, -1, 4, 5}, farInts()...) {
		l = append(l, api.Command{Kind: kind}, api.Command{Kind: kind, Epoch: 5, Body: keyA}, api.Command{Kind: kind, Epoch: 5, Name: "a"})
	}
	for _, epoch := range append([]int{-1, 64}, farInts()...) {
		l = append(l, keyCommand(epoch, keyA), keyCommand(epoch, noKey), putCommand(epoch, "a", "x"), putCommand(epoch, "new", ""), pruneCommand(epoch))
	}
	for _, epoch := range []int{0, 1, 5, 62, 63} {
		for _, name := range []string{"a", "\x00", zeros[:16], "new"} {
			l = append(l, api.Command{Kind: 1, Epoch: epoch, Name: name, Body: keyA}, api.Command{Kind: 1, Epoch: epoch, Name: name, Body: noKey})
			l = append(l, api.Command{Kind: 3, Epoch: epoch, Name: name}, api.Command{Kind: 3, Epoch: epoch, Name: name, Body: "x"})
		}
		for _, body := range []string{"", keyA[:1], keyA[:32], keyA + "\x00", keyA + keyA, noKey[:32], noKey + "\x00", strings.Repeat(keyA, 100)} {
			l = append(l, keyCommand(epoch, body))
		}
		l = append(l, putCommand(epoch, "", ""), putCommand(epoch, "", "x"), putCommand(epoch, "", zeros[:4096]))
		l = append(l, putCommand(epoch, zeros[:17], ""), putCommand(epoch, mixed(17, 1), "x"), putCommand(epoch, mixed(300, 2), ""))
		l = append(l, putCommand(epoch, "new", zeros[:4097]), putCommand(epoch, "a", zeros[:4097]), putCommand(epoch, zeros[:16], mixed(1<<16, 3)))
		l = append(l, api.Command{Kind: 3, Epoch: epoch, Body: "x"}, api.Command{Kind: 3, Epoch: epoch, Body: "\x00"}, api.Command{Kind: 3, Epoch: epoch, Body: keyA})
	}
	for _, x := range somePairs(t) {
		for _, c := range l {
			x.do(t, c, api.ErrArg)
		}
		x.check(t)
	}
}

// 24.1: the least and the most that chapter 16 takes is taken here, too.
func TestEdgesTaken(t *testing.T) {
	for _, epoch := range []int{0, 1, 62, 63} {
		x := newPair(t)
		x.doAll(t, keyCommand(epoch, keyA))
		for _, name := range []string{"a", "\x00", "\xff", mixed(15, 1), mixed(16, 2), zeros[:16]} {
			x.doAll(t, putCommand(epoch, name, ""))
			checkGet(t, x.l, name, api.File{Epoch: epoch, Name: name}, api.OK)
		}
		for i, body := range []string{"x", "\x00", keyA[:32], keyA, noKey, keyA + "x", mixed(4095, 3), mixed(4096, 4), zeros[:4096]} {
			name := string([]byte{'b', byte(i)})
			x.doAll(t, putCommand(epoch, name, body))
			checkGet(t, x.l, name, api.File{Epoch: epoch, Name: name, Body: body}, api.OK)
		}
		x.check(t)
		x.doAll(t, pruneCommand(epoch))
		x.check(t)
	}
}

// 24.1: a refused command stands in nobody's way: the same one, mended, is taken behind it.
func TestMendedCommands(t *testing.T) {
	x := newPair(t)
	x.do(t, keyCommand(64, keyA), api.ErrArg)
	x.do(t, keyCommand(3, keyA[:32]), api.ErrArg)
	x.do(t, keyCommand(3, noKey), api.ErrPoint)
	x.do(t, keyCommand(3, keyA), api.OK)
	x.do(t, putCommand(3, "a", zeros[:4097]), api.ErrArg)
	x.do(t, putCommand(4, "a", "x"), api.ErrNone)
	x.do(t, putCommand(3, "a", "x"), api.OK)
	x.do(t, api.Command{Kind: 3, Epoch: 3, Name: "a"}, api.ErrArg)
	x.do(t, pruneCommand(64), api.ErrArg)
	checkKey(t, x.l, 3, keyA, api.OK)
	checkList(t, x.l, "a")
	checkPruned(t, x.l, -1)
	x.do(t, pruneCommand(3), api.OK)
	x.check(t)
}

// 24.1, R1: a new catalogue has no key, no file, and nothing is pruned.
func TestNew(t *testing.T) {
	l := ledger.New()
	if l == nil {
		t.Fatal("no catalogue")
	}
	for epoch := range 64 {
		checkKey(t, l, epoch, "", api.ErrNone)
	}
	checkNoFile(t, l, "", "a", "\x00", zeros[:16], zeros[:17], zeros)
	checkList(t, l)
	checkPruned(t, l, -1)
	checkPlain(t, l, &plainLedger{})
}
