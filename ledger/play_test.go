package ledger_test

import (
	"math/rand"
	"slices"
	"testing"

	"sandglass/api"
	"sandglass/ledger"
)

// played holds a Play against the plain play of the document's words, and against Do of each command in order; it answers the plain one.
func played(t *testing.T, commands []api.Command) *plainLedger {
	t.Helper()
	l, answers := ledger.Play(commands)
	if l == nil || len(answers) != len(commands) {
		t.Fatalf("%d commands: %d answers", len(commands), len(answers))
	}
	one, p := ledger.New(), &plainLedger{}
	for i, c := range commands {
		got, want := one.Do(c), p.do(c)
		if got != want || answers[i] != want {
			t.Fatalf("command %d, kind %d, epoch %d, %q: Do %d, Play %d; want %d", i, c.Kind, c.Epoch, short(c.Name), got, answers[i], want)
		}
	}
	checkPlain(t, one, p)
	checkPlain(t, l, p)
	return p
}

// 24.1: the document's example.
func TestExample(t *testing.T) {
	put := putCommand(5, "a", "x")
	if err := ledger.New().Do(put); err != api.ErrNone {
		t.Errorf("a put ahead of its epoch's key: %d", err)
	}
	_, answers := ledger.Play([]api.Command{put, keyCommand(5, keyA), put, put})
	if !slices.Equal(answers, []api.Errno{api.ErrNone, api.OK, api.OK, api.ErrTwice}) {
		t.Errorf("answers %d", answers)
	}
}

// 24.1, R3: of no command: an empty catalogue, and no answer.
func TestPlayNothing(t *testing.T) {
	for _, commands := range [][]api.Command{nil, {}, make([]api.Command, 0, 3)} {
		l, answers := ledger.Play(commands)
		if l == nil || len(answers) != 0 {
			t.Fatalf("%d answers", len(answers))
		}
		checkList(t, l)
		checkPruned(t, l, -1)
		checkPlain(t, l, &plainLedger{})
		if err := l.Do(keyCommand(0, keyA)); err != api.OK {
			t.Errorf("a key behind it: %d", err)
		}
		checkKey(t, l, 0, keyA, api.OK)
	}
}

// 24.1: of some commands, such as are refused among them, against what was counted by hand.
func TestPlaySome(t *testing.T) {
	l, answers := ledger.Play([]api.Command{
		{}, putCommand(1, "a", "x"), keyCommand(1, noKey), keyCommand(1, keyA), keyCommand(1, keyB),
		putCommand(1, "b", "x"), putCommand(1, "a", "y"), putCommand(1, "a", "z"), keyCommand(2, keyB), putCommand(2, "c", ""),
		pruneCommand(1), pruneCommand(0), putCommand(1, "d", ""), keyCommand(1, keyA), putCommand(2, "a", "new"), pruneCommand(64), putCommand(2, "c", ""),
	})
	want := []api.Errno{
		api.ErrArg, api.ErrNone, api.ErrPoint, api.OK, api.ErrTwice,
		api.OK, api.OK, api.ErrTwice, api.OK, api.OK,
		api.OK, api.OK, api.ErrPruned, api.ErrPruned, api.OK, api.ErrArg, api.ErrTwice,
	}
	if !slices.Equal(answers, want) {
		t.Errorf("answers %d; want %d", answers, want)
	}
	checkList(t, l, "a", "c")
	checkGet(t, l, "a", api.File{Epoch: 2, Name: "a", Body: "new"}, api.OK)
	checkGet(t, l, "c", api.File{Epoch: 2, Name: "c"}, api.OK)
	checkNoFile(t, l, "b", "d")
	checkPruned(t, l, 1)
	checkKey(t, l, 1, "", api.ErrPruned)
	checkKey(t, l, 2, keyB, api.OK)
}

// 24.1: of a key and 33 files the last is one too many.
func TestPlayFull(t *testing.T) {
	commands := append(fullOf(0), putCommand(0, "new", ""), keyCommand(1, keyB), putCommand(1, "new", ""), pruneCommand(0), putCommand(1, "new", ""))
	_, answers := ledger.Play(commands)
	for i, err := range answers {
		want := api.OK
		if i == 33 || i == 35 {
			want = api.ErrFull
		}
		if err != want {
			t.Errorf("%d: %d; want %d", i, err, want)
		}
	}
	p := played(t, commands)
	if !slices.Equal(p.list(), []string{"new"}) {
		t.Errorf("names %q", p.list())
	}
}

// 24.1: commands that are all refused leave an empty catalogue.
func TestPlayRefused(t *testing.T) {
	var commands []api.Command
	for _, k := range farInts() {
		commands = append(commands, api.Command{Kind: k}, keyCommand(k, keyA), putCommand(k, "a", ""), pruneCommand(k), putCommand(3, "a", ""), keyCommand(3, noKey))
	}
	if p := played(t, commands); len(p.done) != 0 {
		t.Errorf("%d were taken", len(p.done))
	}
}

// 24.1: a catalogue that was played goes on by Do, as one that was done.
func TestDoBehindPlay(t *testing.T) {
	commands := append(fullOf(2, 3), pruneCommand(2), keyCommand(4, keyB))
	l, _ := ledger.Play(commands)
	p := played(t, commands)
	x := pair{l, p}
	x.do(t, putCommand(2, "a", ""), api.ErrPruned)
	x.do(t, putCommand(3, "a", "1"), api.OK)
	x.do(t, putCommand(4, "a", "2"), api.ErrTwice)
	x.do(t, pruneCommand(3), api.OK)
	x.do(t, putCommand(4, "a", "2"), api.OK)
	x.check(t)
	checkList(t, l, "a")
}

// 24.1: all rows of four of these commands.
func TestAllRows(t *testing.T) {
	all := []api.Command{
		keyCommand(0, keyA), keyCommand(1, keyB), keyCommand(1, noKey), putCommand(0, "x", "1"), putCommand(1, "x", "2"), putCommand(1, "w", "3"), pruneCommand(0), pruneCommand(1), putCommand(1, "", "4"),
	}
	rows := len(all) * len(all) * len(all) * len(all)
	for row := range rows {
		var commands []api.Command
		for rest, k := row, 0; k < 4; k++ {
			commands = append(commands, all[rest%len(all)])
			rest /= len(all)
		}
		played(t, commands)
	}
}

// world is what the commands of a row are made of.
type world struct {
	epochs []int
	names  []string
	bodies []string
	keys   []string
	prune  int // one of so many is a prune
}

// anyWorld has few epochs and names, so that they meet, or many, so that there are too many.
func anyWorld(t *testing.T, r *rand.Rand) world {
	t.Helper()
	first, large, pointless := badBodies(t)
	w := world{bodies: []string{"", "x", keyA, mixed(300, 1), zeros[:4096], zeros[:4097]}, prune: []int{10, 50, 400}[r.Intn(3)]}
	w.keys = []string{keyA, keyB, keyC, keyOf(7), first[r.Intn(len(first))], large[r.Intn(len(large))], pointless[r.Intn(len(pointless))], keyA[:32], keyA + "x"}
	start := r.Intn(60)
	for k := range []int{2, 4, 12, 64}[r.Intn(4)] {
		w.epochs = append(w.epochs, (start+k)%64)
	}
	for k := range []int{3, 40, 90}[r.Intn(3)] {
		w.names = append(w.names, mixed(1+k%16, uint64(r.Intn(1000))))
	}
	return w
}

// anyCommand is mostly one that may be; a row begins with keys, and prunes come late rather than soon.
func (w world) anyCommand(r *rand.Rand) api.Command {
	epoch := w.epochs[r.Intn(len(w.epochs))]
	if r.Intn(40) == 0 {
		return api.Command{Kind: r.Intn(6) - 1, Epoch: r.Intn(70) - 3, Name: w.names[r.Intn(len(w.names))][:r.Intn(2)], Body: w.bodies[r.Intn(len(w.bodies))]}
	}
	if r.Intn(w.prune) == 0 {
		return pruneCommand(w.epochs[r.Intn(1+len(w.epochs)/2)])
	}
	if r.Intn(4) == 0 {
		return keyCommand(epoch, w.keys[r.Intn(len(w.keys))])
	}
	return putCommand(epoch, w.names[r.Intn(len(w.names))], w.bodies[r.Intn(len(w.bodies))])
}

// told counts the answers to commands of a kind.
type told struct {
	kind int
	err  api.Errno
}

// 24.1: rows of random commands: each answer, and all that the catalogue tells behind each, against the plain play.
func TestRows(t *testing.T) {
	r := rand.New(rand.NewSource(24))
	counts := map[told]int{}
	for row := range 150 {
		w := anyWorld(t, r)
		l, p := ledger.New(), &plainLedger{}
		var commands []api.Command
		for range 120 {
			c := w.anyCommand(r)
			commands = append(commands, c)
			got, want := l.Do(c), p.do(c)
			if got != want {
				t.Fatalf("row %d: kind %d, epoch %d, %q: %d; want %d", row, c.Kind, c.Epoch, c.Name, got, want)
			}
			counts[told{c.Kind, got}]++
			checkPlain(t, l, p)
		}
		played(t, commands)
	}
	for _, x := range []told{{1, 0}, {1, 1}, {1, 5}, {1, 8}, {1, 11}, {2, 0}, {2, 1}, {2, 7}, {2, 8}, {2, 9}, {2, 11}, {3, 0}} {
		if counts[x] < 100 {
			t.Errorf("kind %d was answered %d only %d times", x.kind, x.err, counts[x])
		}
	}
}
