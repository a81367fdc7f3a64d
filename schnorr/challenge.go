package schnorr

import (
	"strings"

	"sandglass/api"
	"sandglass/scalar"
	"sandglass/sec1"
	"sandglass/sha"
)

// name begins what is summed, so that no challenge is one of another kind of proof.
const name = "schnorr"

// sum is a hash of texts that come one by one.
type sum struct{ told strings.Builder }

// goesOn takes the text that comes next.
type goesOn func(text string)

// Challenge answers the number, modulo q, that a proof by R of the secret of P meets.
func Challenge(r, p api.Point, more string) api.Num {
	var s sum
	tell(s.add, r, p, more)
	return s.number()
}

// tell hands on, one behind the other, all that a challenge is made of.
func tell(next goesOn, r, p api.Point, more string) {
	next(name)
	for _, one := range [2]api.Point{r, p} {
		// Of a point that has no bytes the text is empty.
		text, _ := sec1.Encode(one)
		next(text)
	}
	next(more)
}

// add is how a sum goes on.
func (s *sum) add(text string) { s.told.WriteString(text) }

// number answers the hash of all that was told as a number modulo q.
func (s *sum) number() api.Num {
	// A sum of numbers is handed out modulo q, whatever they are.
	return scalar.Add(number(sha.Sum(s.told.String())), api.Num{})
}
