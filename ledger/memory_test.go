package ledger_test

import (
	"math"
	"math/rand"
	"slices"
	"testing"
	"unsafe"

	"sandglass/api"
	"sandglass/ledger"
)

// shared tells whether two texts have a byte of memory in common.
func shared(a, b string) bool {
	if a == "" || b == "" {
		return false
	}
	from, other := uintptr(unsafe.Pointer(unsafe.StringData(a))), uintptr(unsafe.Pointer(unsafe.StringData(b)))
	return from < other+uintptr(len(b)) && other < from+uintptr(len(a))
}

// checkApart holds that no two of the texts share memory.
func checkApart(t *testing.T, l []string) {
	t.Helper()
	for i := range l {
		for k := range i {
			if shared(l[i], l[k]) {
				t.Errorf("%d and %d share memory: %q", k, i, short(l[i]))
			}
		}
	}
}

// written is a text whose bytes can be written over.
func written(s string) (string, []byte) {
	b := []byte(s + "behind")
	return unsafe.String(&b[0], len(s)), b
}

// over writes over a text that was handed out.
func over(s string) {
	if s != "" {
		clear(unsafe.Slice(unsafe.StringData(s), len(s)))
	}
}

// R4: what is told shares no memory with what was handed in, with what is kept, nor with another answer.
func TestNewMemory(t *testing.T) {
	for _, length := range []int{1, 2, 16} {
		var l []string
		var commands []api.Command
		for i, key := range []string{keyA, keyB} {
			key, _ := written(key)
			name, _ := written(mixed(length, uint64(i+1)))
			body, _ := written(mixed(100, uint64(i+1)))
			commands = append(commands, keyCommand(i, key), putCommand(i, name, body))
			l = append(l, key, name, body)
		}
		one := ledger.New()
		for _, c := range commands {
			if err := one.Do(c); err != api.OK {
				t.Fatal(err)
			}
		}
		two, _ := ledger.Play(commands)
		for _, x := range []*ledger.Ledger{one, two, one} {
			l = append(l, x.List()...)
			l = append(l, x.List()...)
			for i := range 2 {
				key, _ := x.Key(i)
				name, _ := written(mixed(length, uint64(i+1)))
				f, err := x.Get(name)
				if err != api.OK || key == "" {
					t.Fatal("nothing there")
				}
				l = append(l, key, name, f.Name, f.Body)
			}
		}
		checkApart(t, l)
	}
}

// R4: what was handed in is not changed, what lies behind its end neither, and not kept: it may be written over behind each call.
func TestNothingKept(t *testing.T) {
	l, p := ledger.New(), &plainLedger{}
	hand := func(kind, epoch int, name, body string) {
		nameText, nameBytes := written(name)
		bodyText, bodyBytes := written(body)
		got := l.Do(api.Command{Kind: kind, Epoch: epoch, Name: nameText, Body: bodyText})
		if want := p.do(api.Command{Kind: kind, Epoch: epoch, Name: name, Body: body}); got != want {
			t.Errorf("kind %d, epoch %d, %q: %d; want %d", kind, epoch, short(name), got, want)
		}
		if string(nameBytes) != name+"behind" || string(bodyBytes) != body+"behind" {
			t.Error("what was handed in became another one")
		}
		clear(nameBytes)
		clear(bodyBytes)
		checkPlain(t, l, p)
	}
	hand(1, 3, "", keyA)
	hand(1, 3, "", keyB)
	hand(1, 4, "", noKey)
	hand(1, 4, "", keyC)
	for i := range 34 {
		hand(2, 3+i%2, mixed(1+i%16, uint64(i)), mixed(10*i, 1))
		hand(2, 3, mixed(1+i%16, uint64(i)), "")
	}
	hand(2, 5, "a", "x")
	hand(2, 3, "", zeros)
	hand(3, 3, "", "")
	hand(2, 4, "last", "x")
	// A name that is asked for is not kept, either.
	name, bytes := written("last")
	f, err := l.Get(name)
	clear(bytes)
	if f != (api.File{Epoch: 4, Name: "last", Body: "x"}) || err != api.OK {
		t.Error("an answer was written over")
	}
	checkPlain(t, l, p)
}

// R4: one text for all names and bodies, which is written over each time.
func TestOneText(t *testing.T) {
	text, bytes := written("n0")
	l, p := ledger.New(), &plainLedger{}
	l.Do(keyCommand(1, keyA))
	p.do(keyCommand(1, keyA))
	for _, v := range []byte("5173026498") {
		bytes[1] = v
		if err := l.Do(putCommand(1, text, text)); err != api.OK {
			t.Errorf("%q: %d", text, err)
		}
		p.do(putCommand(1, "n"+string([]byte{v}), "n"+string([]byte{v})))
	}
	clear(bytes)
	checkPlain(t, l, p)
	checkList(t, l, "n0", "n1", "n2", "n3", "n4", "n5", "n6", "n7", "n8", "n9")
}

// R4: Play neither changes nor keeps its list, what lies behind its end, or its texts.
func TestPlayKeepsNothing(t *testing.T) {
	var list []api.Command
	var texts [][]byte
	for _, c := range append(fullOf(1, 2), putCommand(1, "new", ""), pruneCommand(1), api.Command{}) {
		name, nameBytes := written(c.Name)
		body, bodyBytes := written(c.Body)
		list = append(list, api.Command{Kind: c.Kind, Epoch: c.Epoch, Name: name, Body: body})
		texts = append(texts, nameBytes, bodyBytes)
	}
	behind := keyCommand(63, keyA)
	list = append(list, behind)
	before, p := slices.Clone(list), &plainLedger{}
	for i := range before {
		p.do(api.Command{Kind: list[i].Kind, Epoch: list[i].Epoch, Name: string([]byte(list[i].Name)), Body: string([]byte(list[i].Body))})
	}
	p.done = p.done[:len(p.done)-1]
	l, answers := ledger.Play(list[:len(list)-1])
	if !slices.Equal(list, before) {
		t.Error("the list became another one")
	}
	for i, bytes := range texts {
		c := before[i/2]
		if text := []string{c.Name, c.Body}[i%2]; string(bytes) != text+"behind" {
			t.Error("a text became another one")
		}
		clear(bytes)
	}
	clear(list)
	checkPlain(t, l, p)
	if len(answers) != len(before)-1 {
		t.Errorf("%d answers", len(answers))
	}
}

// R4: what was told may be written over, and stays when the catalogue goes on.
func TestAnswersStay(t *testing.T) {
	x := newPair(t, keyCommand(1, keyA), putCommand(1, "b", "body"), keyCommand(2, keyB), putCommand(2, "d", "other"))
	names, key := x.l.List(), func() string { k, _ := x.l.Key(1); return k }()
	f, _ := x.l.Get("b")
	x.doAll(t, putCommand(1, "a", ""), putCommand(2, "c", ""), pruneCommand(1), putCommand(2, "b", "new"))
	if !slices.Equal(names, []string{"b", "d"}) || key != keyA || f != (api.File{Epoch: 1, Name: "b", Body: "body"}) {
		t.Errorf("an answer became %q, %q, %v", names, short(key), f)
	}
	for range 2 {
		names := x.l.List()
		for i := range names {
			over(names[i])
			names[i] = "z"
		}
		_ = append(names[:1], "y", "z")
		key, _ := x.l.Key(2)
		over(key)
		for _, name := range []string{"b", "c", "d"} {
			f, _ := x.l.Get(name)
			over(f.Name)
			over(f.Body)
		}
		x.check(t)
	}
	checkList(t, x.l, "b", "c", "d")
}

// R4: lists of names, and of answers, share no room, behind their ends neither.
func TestBehindTheEnd(t *testing.T) {
	x := newPair(t, keyCommand(1, keyA), putCommand(1, "a", ""), putCommand(1, "b", ""), putCommand(1, "c", ""))
	one, two := x.l.List(), x.l.List()
	_ = append(one[:1], "x")
	_ = append(one, "y", "z")
	if !slices.Equal(two, []string{"a", "b", "c"}) {
		t.Errorf("another answer became %q", two)
	}
	checkList(t, x.l, "a", "b", "c")
	commands := []api.Command{putCommand(1, "a", ""), keyCommand(1, keyA)}
	_, first := ledger.Play(commands)
	_, second := ledger.Play(commands)
	first[0] = api.ErrSum
	_ = append(first, api.ErrSum)
	if !slices.Equal(second, []api.Errno{api.ErrNone, api.OK}) {
		t.Errorf("other answers became %d", second)
	}
}

// Two catalogues share nothing, also of the same commands.
func TestTwoLedgers(t *testing.T) {
	commands := []api.Command{keyCommand(1, keyA), putCommand(1, "a", "x"), keyCommand(2, keyB)}
	one, two := newPair(t), newPair(t)
	three, _ := ledger.Play(commands)
	four, _ := ledger.Play(commands)
	if one.l == two.l || three == four || one.l == three {
		t.Fatal("the same catalogue twice")
	}
	one.doAll(t, commands...)
	two.check(t)
	two.doAll(t, commands[0])
	one.doAll(t, pruneCommand(1))
	two.check(t)
	two.do(t, commands[1], api.OK)
	two.do(t, commands[2], api.OK)
	one.check(t)
	checkPlain(t, three, two.p)
	if err := three.Do(pruneCommand(63)); err != api.OK {
		t.Error(err)
	}
	checkPlain(t, four, two.p)
	two.check(t)
	one.check(t)
	checkPlain(t, ledger.New(), &plainLedger{})
	// The names, keys and files of one are put to another one, and stay there when they are pruned here.
	key, _ := four.Key(1)
	f, _ := four.Get("a")
	five := newPair(t, keyCommand(1, key), putCommand(1, f.Name, f.Body))
	four.Do(pruneCommand(63))
	five.check(t)
	checkList(t, four)
}

// 24.1, R1: a nil catalogue refuses everything and has nothing.
func TestNoLedger(t *testing.T) {
	var l *ledger.Ledger
	for range 2 {
		for _, epoch := range append([]int{-1, 0, 1, 63, 64}, farInts()...) {
			checkKey(t, l, epoch, "", api.ErrArg)
			for _, c := range []api.Command{keyCommand(epoch, keyA), keyCommand(epoch, noKey), putCommand(epoch, "a", "x"), pruneCommand(epoch), {Kind: epoch}} {
				if err := l.Do(c); err != api.ErrArg {
					t.Errorf("kind %d, epoch %d: %d", c.Kind, c.Epoch, err)
				}
			}
		}
		checkNoFile(t, l, "", "a", zeros[:16], zeros)
		checkList(t, l)
		checkPruned(t, l, -1)
	}
}

// R1: of any arguments every call ends, and does not panic, in any state.
func TestAnyArguments(t *testing.T) {
	for _, x := range somePairs(t) {
		for _, k := range append([]int{-1, 0, 1, 2, 3, 4, 62, 63, 64}, farInts()...) {
			for _, epoch := range []int{math.MinInt, -1, 0, 31, 63, 64, math.MaxInt, k} {
				for _, text := range []string{"", "a", keyA, noKey, zeros} {
					x.l.Do(api.Command{Kind: k, Epoch: epoch, Body: text})
					x.l.Do(api.Command{Kind: k, Epoch: epoch, Name: text, Body: text})
					x.l.Get(text)
				}
			}
			x.l.Key(k)
			if n := len(x.l.List()); n > 32 || x.l.Pruned() < -1 || x.l.Pruned() > 63 {
				t.Fatalf("%d files, pruned %d", n, x.l.Pruned())
			}
		}
	}
}

// R5: the same commands in the same order have the same answers again, and being asked changes nothing.
func TestSameAgain(t *testing.T) {
	r := rand.New(rand.NewSource(5))
	for row := range 30 {
		w := anyWorld(t, r)
		others := []*ledger.Ledger{ledger.New(), ledger.New()}
		one, p := ledger.New(), &plainLedger{}
		var commands []api.Command
		var answers []api.Errno
		for range 80 {
			c := w.anyCommand(r)
			commands, answers = append(commands, c), append(answers, one.Do(c))
			p.do(c)
			names := p.names()
			for _, l := range others {
				if got := l.Do(c); got != answers[len(answers)-1] {
					t.Fatalf("row %d: %d, then %d", row, answers[len(answers)-1], got)
				}
				// The first is asked often, the others once.
				if !stateOf(l, names).same(stateOf(one, names)) || !stateOf(one, names).same(stateOf(l, names)) {
					t.Fatalf("row %d: other things are told", row)
				}
			}
		}
		for range 2 {
			l, again := ledger.Play(commands)
			if !slices.Equal(again, answers) || !stateOf(l, p.names()).same(stateOf(one, p.names())) {
				t.Fatalf("row %d: another play", row)
			}
		}
	}
}
