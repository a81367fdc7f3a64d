package wire_test

import (
	"math"
	"slices"
	"strings"
	"testing"
	"unsafe"

	"sandglass/api"
	"sandglass/wire"
)

// shared tells whether two texts have a byte of memory in common.
func shared(a, b string) bool {
	if a == "" || b == "" {
		return false
	}
	from, other := uintptr(unsafe.Pointer(unsafe.StringData(a))), uintptr(unsafe.Pointer(unsafe.StringData(b)))
	return from < other+uintptr(len(b)) && other < from+uintptr(len(a))
}

// checkApart holds that no two of the texts share memory.
func checkApart(t *testing.T, what string, l ...string) {
	t.Helper()
	for i := range l {
		for k := range i {
			if shared(l[i], l[k]) {
				t.Errorf("%s: %q and %q share memory", what, short(l[k]), short(l[i]))
			}
		}
	}
}

// R4: answers share no memory with what was handed in, nor with one another.
func TestNewMemory(t *testing.T) {
	name, body := strings.Clone("0123456789abcdef"), strings.Repeat("b", 100)
	checkApart(t, "Text", body, wire.Text(body), wire.Text(body))
	l := []string{name, body}
	checkApart(t, "Texts", name, body, wire.Texts(l), wire.Texts(l), wire.Texts(l[1:]), wire.Texts(l[1:]))

	s := wire.Texts([]string{name, body, name, "", "abc"})
	one, _ := wire.Read(s)
	two, _ := wire.Read(s)
	checkApart(t, "Read", slices.Concat([]string{s}, one, two)...)

	command := api.Command{Kind: api.CmdPut, Name: name, Body: body}
	s, _ = wire.Command(command)
	again, _ := wire.Command(command)
	c, _ := wire.ReadCommand(s)
	d, _ := wire.ReadCommand(s)
	checkApart(t, "Command", name, body, s, again, c.Name, c.Body, d.Name, d.Body)

	word := api.Word{Kind: api.WordPrevote, From: 1, Value: body}
	s, _ = wire.Word(word)
	again, _ = wire.Word(word)
	w, _ := wire.ReadWord(s)
	x, _ := wire.ReadWord(s)
	checkApart(t, "Word", body, s, again, w.Value, x.Value)
}

// R4: a list that is handed in is not changed, with what lies behind its end, which has no say.
func TestHandedInStays(t *testing.T) {
	all := []string{"", "a", "bc", "", "behind", "more"}
	for n := range len(all) + 1 {
		l := slices.Clone(all)
		checkTexts(t, l[:n], plainTexts(all[:n]...))
		if !slices.Equal(l, all) {
			t.Errorf("the list became %q", l)
		}
	}
}

// R4: a list that was answered stays when another one is asked for and written over, and may be written over itself.
func TestAnswersApart(t *testing.T) {
	l := []string{"", "a", "bc", "def"}
	s := plainTexts(l...)
	one, _ := wire.Read(s)
	two, _ := wire.Read(s)
	for i := range two[:cap(two)] {
		two[:cap(two)][i] = "x"
	}
	if !slices.Equal(one, l) {
		t.Errorf("the answer became %q", one)
	}
	clear(one[:cap(one)])
	checkRead(t, s, l)
}

// R4: nothing that was handed in is kept: it may be written over behind the call.
func TestNothingKept(t *testing.T) {
	written := func(s string) ([]byte, string) {
		b := []byte(s)
		return b, unsafe.String(&b[0], len(b))
	}
	name, nameText := written("a name")
	body, bodyText := written("a body")
	list, listText := written(plainTexts("ab", "", "cde"))
	command, commandText := written(plainCommand(someCommands()[3]))
	word, wordText := written(plainWord(someWords()[1]))

	text, texts := wire.Text(nameText), wire.Texts([]string{nameText, bodyText})
	one, _ := wire.Command(api.Command{Kind: api.CmdPut, Name: nameText, Body: bodyText})
	two, _ := wire.Word(api.Word{Kind: api.WordPrevote, From: 1, Value: bodyText})
	l, _ := wire.Read(listText)
	c, _ := wire.ReadCommand(commandText)
	w, _ := wire.ReadWord(wordText)
	for _, b := range [][]byte{name, body, list, command, word} {
		clear(b)
	}

	if text != plainText("a name") || texts != plainTexts("a name", "a body") || !slices.Equal(l, []string{"ab", "", "cde"}) {
		t.Errorf("%q, %q, %q", text, texts, l)
	}
	if one != plainCommand(api.Command{Kind: api.CmdPut, Name: "a name", Body: "a body"}) || c != someCommands()[3] {
		t.Errorf("%q, %v", one, c)
	}
	if two != plainWord(api.Word{Kind: api.WordPrevote, From: 1, Value: "a body"}) || w != someWords()[1] {
		t.Errorf("%q, %v", two, w)
	}
}

// R5: the same arguments have the same answer again, behind other calls, refused ones among them.
func TestSameAgain(t *testing.T) {
	for range 3 {
		checkTexts(t, []string{"a", "", "bc"}, "\x00\x00\x00\x01a\x00\x00\x00\x00\x00\x00\x00\x02bc")
		checkNone(t, "\x00\x00\x00\x01a\x00\x00\x00\x02b")
		for _, c := range someCommands() {
			checkCommand(t, c, plainCommand(c))
			c.Epoch = math.MinInt
			checkNoCommand(t, c)
			checkUnread(t, plainCommand(c)+"a")
		}
		checkTexts(t, nil, "")
		for _, w := range someWords() {
			checkWord(t, w, plainWord(w))
			w.From = math.MaxInt
			checkNoWord(t, w)
			checkUnheard(t, plainWord(w)+"a")
		}
		checkRead(t, "", nil)
	}
}

// R3: a list that is empty may be nil or of length 0.
func TestEmpty(t *testing.T) {
	for _, l := range [][]string{nil, {}, make([]string, 3)[:0]} {
		checkTexts(t, l, "")
	}
}
