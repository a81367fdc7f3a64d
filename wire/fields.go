package wire

import (
	"sandglass/api"
)

// fields tells how a T stands as texts, a field in each. What may be written is asked the same of what is read, so the one is just what the other is.
type fields[T any] struct {
	count int                // how many there are
	texts func(v T) []string // them, of a T that may be
	value func(l []string) T // the T that they are of, of just count of them
	may   func(v T) bool     // whether there may be such a T
}

// write answers the Texts of v's fields: ErrArg, unless it may be.
func (f fields[T]) write(v T) (string, api.Errno) {
	if !f.may(v) {
		return "", api.ErrArg
	}
	return Texts(f.texts(v)), api.OK
}

// read answers the T of whose fields s is the Texts: ErrSyntax, if it is that of none that may be.
func (f fields[T]) read(s string) (T, api.Errno) {
	var none T
	l, err := Read(s)
	if err != api.OK || len(l) != f.count {
		return none, api.ErrSyntax
	}
	v := f.value(l)
	if !f.may(v) {
		return none, api.ErrSyntax
	}
	return v, api.OK
}

// numberText answers a number of 0 to 255 in a byte.
func numberText(n int) string { return string([]byte{byte(n)}) }

// textNumber answers the number of a byte; -1, if s is none: less than every number that stands in one, so that no T which may be has it.
func textNumber(s string) int {
	if len(s) != 1 {
		return -1
	}
	return int(s[0])
}
