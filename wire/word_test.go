package wire_test

import (
	"math"
	"strings"
	"testing"

	"sandglass/api"
	"sandglass/wire"
)

func checkWord(t *testing.T, w api.Word, want string) {
	t.Helper()
	if got, err := wire.Word(w); got != want || err != api.OK {
		t.Errorf("Word of kind %d, from %d, round %d, valid %d, %d bytes: %q, %d; want %q", w.Kind, w.From, w.Round, w.Valid, len(w.Value), short(got), err, short(want))
	}
	if got, err := wire.ReadWord(want); got != w || err != api.OK {
		t.Errorf("ReadWord of %q: kind %d, from %d, round %d, valid %d, %q, %d", short(want), got.Kind, got.From, got.Round, got.Valid, short(got.Value), err)
	}
}

func checkNoWord(t *testing.T, w api.Word) {
	t.Helper()
	if got, err := wire.Word(w); got != "" || err != api.ErrArg {
		t.Errorf("Word of kind %d, from %d, round %d, valid %d, %d bytes: %q, %d", w.Kind, w.From, w.Round, w.Valid, len(w.Value), short(got), err)
	}
}

func checkUnheard(t *testing.T, s string) {
	t.Helper()
	if got, err := wire.ReadWord(s); got != (api.Word{}) || err != api.ErrSyntax {
		t.Errorf("ReadWord of %q: kind %d, from %d, round %d, valid %d, %q, %d", short(s), got.Kind, got.From, got.Round, got.Valid, short(got.Value), err)
	}
}

// checkAnyWord holds Word against the plain rules.
func checkAnyWord(t *testing.T, w api.Word) {
	t.Helper()
	if isWord(w) {
		checkWord(t, w, plainWord(w))
	} else {
		checkNoWord(t, w)
	}
}

// checkAnyHeard holds ReadWord of any bytes against the plain rules, and that what is read is written just so.
func checkAnyHeard(t *testing.T, s string) {
	t.Helper()
	if w, is := plainReadWord(s); is {
		checkWord(t, w, s)
	} else {
		checkUnheard(t, s)
	}
}

// someWords are short ones of each kind.
func someWords() []api.Word {
	return []api.Word{
		{Kind: api.WordProposal, From: 1, Round: 0, Valid: -1, Value: "a"},
		{Kind: api.WordProposal, From: 7, Round: 63, Valid: 62, Value: "a value"},
		{Kind: api.WordProposal, From: 3, Round: 2, Valid: 0, Value: "\x00\x00\x00\x00"},
		{Kind: api.WordPrevote, From: 2, Round: 0},
		{Kind: api.WordPrevote, From: 7, Round: 63, Value: "\xff\x00"},
		{Kind: api.WordPrecommit, From: 1, Round: 63},
		{Kind: api.WordPrecommit, From: 4, Round: 1, Value: "a"},
	}
}

// 16.3: bytes that were written by hand.
func TestWordBytes(t *testing.T) {
	checkWord(t, api.Word{Kind: api.WordProposal, From: 1, Valid: -1, Value: "a"}, "\x00\x00\x00\x01\x01\x00\x00\x00\x01\x01\x00\x00\x00\x01\x00\x00\x00\x00\x01\x00\x00\x00\x00\x01a")
	checkWord(t, api.Word{Kind: api.WordProposal, From: 7, Round: 63, Valid: 62, Value: "value"}, "\x00\x00\x00\x01\x01\x00\x00\x00\x01\x07\x00\x00\x00\x01\x3f\x00\x00\x00\x01\x3f\x00\x00\x00\x05value")
	checkWord(t, api.Word{Kind: api.WordProposal, From: 2, Round: 5, Valid: 3, Value: "b"}, "\x00\x00\x00\x01\x01\x00\x00\x00\x01\x02\x00\x00\x00\x01\x05\x00\x00\x00\x01\x04\x00\x00\x00\x01b")
	checkWord(t, api.Word{Kind: api.WordPrevote, From: 2, Round: 5}, "\x00\x00\x00\x01\x02\x00\x00\x00\x01\x02\x00\x00\x00\x01\x05\x00\x00\x00\x01\x01\x00\x00\x00\x00")
	checkWord(t, api.Word{Kind: api.WordPrecommit, From: 6, Round: 0, Value: "xyz"}, "\x00\x00\x00\x01\x03\x00\x00\x00\x01\x06\x00\x00\x00\x01\x00\x00\x00\x00\x01\x01\x00\x00\x00\x03xyz")
	long := mixed(4096, 6)
	checkWord(t, api.Word{Kind: api.WordPrecommit, From: 1, Round: 1, Value: long}, "\x00\x00\x00\x01\x03\x00\x00\x00\x01\x01\x00\x00\x00\x01\x01\x00\x00\x00\x01\x01\x00\x00\x10\x00"+long)
}

// 16.3: all words that may be, but for their values, and those beside them.
func TestWord(t *testing.T) {
	taken := 0
	for kind := 0; kind <= 5; kind++ {
		for from := -1; from <= 9; from++ {
			for round := -2; round <= 66; round++ {
				for valid := -3; valid <= 67; valid++ {
					for _, value := range []string{"", "v"} {
						w := api.Word{Kind: kind, From: from, Round: round, Valid: valid, Value: value}
						checkAnyWord(t, w)
						if isWord(w) {
							taken++
						}
					}
				}
			}
		}
	}
	// Of a proposal in round r there are r + 1 Valids; votes have one, and may have no value.
	if want := 7*(64*65/2) + 7*64*2*2; taken != want {
		t.Errorf("%d were taken; want %d", taken, want)
	}
}

// 16.3: any int in each field, with the others right.
func TestWordInts(t *testing.T) {
	for _, w := range someWords() {
		for _, n := range others() {
			kind, from, round, valid := w, w, w, w
			kind.Kind, from.From, round.Round, valid.Valid = n, n, n, n
			for _, x := range []api.Word{kind, from, round, valid} {
				checkAnyWord(t, x)
			}
		}
	}
}

// 16.3: any two ints in two fields.
func TestWordPairs(t *testing.T) {
	for _, w := range someWords() {
		for _, n := range others() {
			for _, m := range others() {
				a, b := w, w
				a.Round, a.Valid = n, m
				b.Kind, b.From = n, m
				checkAnyWord(t, a)
				checkAnyWord(t, b)
			}
		}
	}
}

// 16.3: the kinds, and others: a timeout is none.
func TestWordKinds(t *testing.T) {
	for kind := -300; kind <= 600; kind++ {
		for _, w := range someWords() {
			w.Kind = kind
			checkAnyWord(t, w)
		}
	}
	for _, kind := range []int{0, -1, api.WordTimeout, 5, 255, 256, 257, 258, 259, math.MinInt, math.MaxInt} {
		for _, w := range someWords() {
			w.Kind = kind
			checkNoWord(t, w)
		}
	}
	for step := range 5 {
		checkNoWord(t, api.Word{Kind: api.WordTimeout, From: 1, Valid: step})
	}
}

// 16.3: who it comes from, and the round.
func TestWordFromAndRound(t *testing.T) {
	for _, w := range someWords() {
		for _, from := range []int{0, -1, 8, 9, 255, 256, 257, 263, math.MinInt, math.MaxInt} {
			x := w
			x.From = from
			checkNoWord(t, x)
		}
		for _, round := range []int{-1, -2, 64, 65, 255, 256, 319, math.MinInt, math.MinInt + 1, math.MaxInt} {
			x := w
			x.Round = round
			checkNoWord(t, x)
		}
	}
}

// 16.3: Valid is -1 to Round - 1 of a proposal, 0 of others.
func TestWordValid(t *testing.T) {
	for round := range 64 {
		for _, valid := range []int{-2, -1, 0, round - 1, round, round + 1, 64, 255, 256, math.MinInt, math.MaxInt} {
			w := api.Word{Kind: api.WordProposal, From: 1, Round: round, Valid: valid, Value: "a"}
			if valid >= -1 && valid < round {
				checkWord(t, w, plainWord(w))
			} else {
				checkNoWord(t, w)
			}
			for _, kind := range []int{api.WordPrevote, api.WordPrecommit} {
				w.Kind = kind
				if valid == 0 {
					checkWord(t, w, plainWord(w))
				} else {
					checkNoWord(t, w)
				}
			}
		}
	}
}

// 16.3: a value has at most 4096 bytes, whichever, and of a proposal one at the least.
func TestWordValues(t *testing.T) {
	for kind := 1; kind <= 3; kind++ {
		valid := 0
		if kind == api.WordProposal {
			valid = -1
		}
		for n := range 4200 {
			w := api.Word{Kind: kind, From: 7, Round: 63, Valid: valid, Value: zeros[:n]}
			if n <= 4096 && (n > 0 || kind != api.WordProposal) {
				checkWord(t, w, plainWord(w))
			} else {
				checkNoWord(t, w)
			}
		}
		for v := range 256 {
			w := api.Word{Kind: kind, From: 1, Round: 1, Valid: 0, Value: string([]byte{byte(v)})}
			checkWord(t, w, plainWord(w))
		}
		checkNoWord(t, api.Word{Kind: kind, From: 1, Valid: valid, Value: strings.Repeat("x", 1<<16)})
		checkNoWord(t, api.Word{Kind: kind, From: 1, Valid: valid, Value: strings.Repeat("x", 1<<16+1)})
	}
}

// wordTexts are the five texts of a word.
func wordTexts(w api.Word) []string {
	return []string{string([]byte{byte(w.Kind)}), string([]byte{byte(w.From)}), string([]byte{byte(w.Round)}), string([]byte{byte(w.Valid + 1)}), w.Value}
}

// 16.3: each cut of a word's bytes, and a byte more.
func TestReadWordCuts(t *testing.T) {
	for _, w := range someWords() {
		s := plainWord(w)
		for cut := range len(s) {
			checkUnheard(t, s[:cut])
			checkUnheard(t, s[len(s)-cut:])
		}
		for v := range 256 {
			checkUnheard(t, s+string([]byte{byte(v)}))
			checkUnheard(t, string([]byte{byte(v)})+s)
		}
		checkUnheard(t, s+s)
		checkUnheard(t, plainText(s))
		checkWord(t, w, s)
	}
}

// 16.3, T7: each byte of a word's turned, missing or there once more.
func TestReadWordTurned(t *testing.T) {
	for _, w := range someWords() {
		for _, s := range turned(plainWord(w)) {
			checkAnyHeard(t, s)
		}
	}
}

// 16.3: other numbers of texts than five.
func TestReadWordCount(t *testing.T) {
	for _, w := range someWords() {
		l := wordTexts(w)
		for n := range 5 {
			checkUnheard(t, plainTexts(l[:n]...))
			checkUnheard(t, plainTexts(l[n+1:]...))
			checkUnheard(t, plainTexts(append(append([]string{}, l[:n]...), l[n+1:]...)...))
		}
		for _, more := range []string{"", "\x00", "a", w.Value} {
			checkUnheard(t, plainTexts(append(l[:5:5], more)...))
			checkUnheard(t, plainTexts(append([]string{more}, l...)...))
			checkUnheard(t, plainTexts(append(l[:5:5], more, more)...))
		}
	}
	for n := range 12 {
		checkUnheard(t, plainTexts(make([]string, n)...))
	}
}

// 16.3: each of the four numbers in no byte, or in more than one, though the number would be the same.
func TestReadWordWidth(t *testing.T) {
	for _, w := range someWords() {
		for i := range 4 {
			right := wordTexts(w)[i]
			for _, text := range []string{"", "\x00" + right, "\x00\x00\x00" + right, right + "\x00", right + right} {
				l := wordTexts(w)
				l[i] = text
				checkUnheard(t, plainTexts(l...))
			}
		}
		l := wordTexts(w)
		checkUnheard(t, plainTexts("", "", "", "", l[4]))
	}
}

// 16.3: the numbers' bytes at their edges, each with each, and every one alone.
func TestReadWordFields(t *testing.T) {
	edges := []byte{0, 1, 2, 3, 4, 5, 7, 8, 62, 63, 64, 65, 66, 127, 128, 254, 255}
	for _, kind := range edges {
		for _, from := range edges {
			for _, round := range edges {
				for _, valid := range edges {
					for _, value := range []string{"", "v"} {
						checkAnyHeard(t, plainTexts(string([]byte{kind}), string([]byte{from}), string([]byte{round}), string([]byte{valid}), value))
					}
				}
			}
		}
	}
	for _, w := range someWords() {
		for i := range 4 {
			for v := range 256 {
				l := wordTexts(w)
				l[i] = string([]byte{byte(v)})
				checkAnyHeard(t, plainTexts(l...))
			}
		}
		for _, n := range []int{0, 1, 4095, 4096, 4097, 5000} {
			l := wordTexts(w)
			l[4] = zeros[:n]
			checkAnyHeard(t, plainTexts(l...))
		}
	}
}

// 16.3, R1, T7: whatever bytes.
func TestReadWordOfAnything(t *testing.T) {
	checkUnheard(t, "")
	for _, s := range noise(20000, 7) {
		checkAnyHeard(t, s)
		checkAnyHeard(t, "\x00\x00\x00\x01\x02\x00\x00\x00\x01\x01\x00\x00\x00\x01"+s)
		checkAnyHeard(t, "\x00\x00\x00\x01\x01\x00\x00\x00\x01\x01\x00\x00\x00\x01\x01\x00\x00\x00\x01\x01"+s)
	}
	for i := range 3000 {
		checkAnyHeard(t, mixed(i%60, uint64(i)))
	}
	for _, c := range someCommands() {
		checkUnheard(t, plainCommand(c))
	}
}
