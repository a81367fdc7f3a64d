package drbg

import (
	"sandglass/api"
	"sandglass/scalar"
)

const (
	maxTries = 64 // numbers that Scalar looks at
	maxPoly  = 8  // numbers of a Poly
)

// Scalar answers the next number that is 1 to q - 1; 0 of no generator.
func (d *Drbg) Scalar() api.Num {
	if d == nil {
		return api.Num{}
	}
	return firstRight(d.number)
}

// Poly answers the next n Scalars. What lies beyond 0 to 8 of n counts as these; none of no generator.
func (d *Drbg) Poly(n int) []api.Num {
	if d == nil {
		return nil
	}
	l := make([]api.Num, min(max(n, 0), maxPoly))
	for i := range l {
		l[i] = d.Scalar()
	}
	return l
}

// number answers that of the next 32 bytes, whatever it is.
func (d *Drbg) number() api.Num {
	s, _ := d.Bytes(size)
	return numberOf(s)
}

// firstRight answers the first number that next tells and that is 1 to q - 1; 1, if none of the first 64 is.
func firstRight(next func() api.Num) api.Num {
	for range maxTries {
		if n := next(); n != (api.Num{}) && scalar.Valid(n) {
			return n
		}
	}
	return api.Num{1}
}

// numberOf answers the number of 32 bytes, the highest first. It reads them itself, since scalar.Wide would not tell which numbers are q or more.
func numberOf(s string) api.Num {
	var n api.Num
	for i := range size {
		word := &n[(size-1-i)/8]
		*word = *word<<8 | uint64(s[i])
	}
	return n
}
