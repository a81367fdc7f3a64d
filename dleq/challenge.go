package dleq

import (
	"strings"

	"sandglass/api"
	"sandglass/scalar"
	"sandglass/sec1"
	"sandglass/sha"
)

// name begins what is summed, so that no challenge is one of another kind of proof.
const name = "dleq"

const numberSize = 32 // bytes of a number

// Challenge answers the number, modulo q, that a proof by these points meets.
func Challenge(l []api.Point, more string) api.Num { return challenge(more, l...) }

// challenge is Challenge of points that are handed on as they are at hand.
func challenge(more string, l ...api.Point) api.Num {
	var told strings.Builder
	told.WriteString(name)
	for _, p := range l {
		// Of a point that has no bytes the text is empty.
		text, _ := sec1.Encode(p)
		told.WriteString(text)
	}
	told.WriteString(more)
	// A sum of numbers is handed out modulo q, whatever they are.
	return scalar.Add(number(sha.Sum(told.String())), api.Num{})
}

// bytes answers the 32 bytes of a number, the highest first.
func bytes(k api.Num) string {
	var text [numberSize]byte
	for i := range text {
		text[numberSize-1-i] = byte(k[i/8] >> (i % 8 * 8))
	}
	return string(text[:])
}

// number answers the number of 32 bytes, the highest first.
func number(text string) api.Num {
	var k api.Num
	for i := range numberSize {
		k[i/8] |= uint64(text[numberSize-1-i]) << (i % 8 * 8)
	}
	return k
}
