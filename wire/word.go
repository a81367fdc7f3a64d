package wire

import (
	"sandglass/api"
)

// Word answers the bytes of an agreement's word: ErrArg, unless it may be.
func Word(w api.Word) (string, api.Errno) { return wordFields().write(w) }

// ReadWord answers the word whose bytes s is: ErrSyntax, if it is that of none.
func ReadWord(s string) (api.Word, api.Errno) { return wordFields().read(s) }

func wordFields() fields[api.Word] {
	return fields[api.Word]{
		count: 5,
		texts: func(w api.Word) []string {
			// Valid is -1 at the least, which a byte does not hold.
			return []string{numberText(w.Kind), numberText(w.From), numberText(w.Round), numberText(w.Valid + 1), w.Value}
		},
		value: func(l []string) api.Word {
			return api.Word{Kind: textNumber(l[0]), From: textNumber(l[1]), Round: textNumber(l[2]), Valid: textNumber(l[3]) - 1, Value: l[4]}
		},
		may: mayBeWord,
	}
}

// mayBeWord tells whether there may be such a word. A timeout is none: a node says it to itself alone.
func mayBeWord(w api.Word) bool {
	if w.From < 1 || w.From > api.MaxNodes || w.Round < 0 || w.Round >= api.MaxRound || len(w.Value) > api.MaxBody {
		return false
	}
	switch w.Kind {
	case api.WordProposal:
		return w.Valid >= -1 && w.Valid < w.Round && w.Value != ""
	case api.WordPrevote, api.WordPrecommit:
		return w.Valid == 0
	}
	return false
}
