package comb

import (
	"sandglass/api"
	"sandglass/point"
)

// width is that of the digits of which Sum's multiples are made, and odds how many odd multiples these need: digits are less than 2^(width-1).
const (
	width = 5
	odds  = 1 << (width - 2)
)

// Odds answers p times 1, 3, 5 and so on, up to 15.
func Odds(p api.Point) []api.Point {
	row := oddRow(p)
	return row[:]
}

// oddRow is a table of p's odd multiples.
func oddRow(p api.Point) [odds]api.Point {
	var row [odds]api.Point
	// A point that is none of the curve counts as None: a sum tells it so.
	row[0] = point.Add(p, none)
	twice := point.Double(p)
	for i := range odds - 1 {
		row[i+1] = point.Add(row[i], twice)
	}
	return row
}

// part is a number's digits, and the odd multiples of its point.
type part struct {
	digits []int
	row    [odds]api.Point
}

// Sum answers the sum of each k's multiple of the p at its place, as far as both lists go.
func Sum(k []api.Num, p []api.Point) api.Point {
	parts := make([]part, min(len(k), len(p)))
	long := 0
	for i := range len(parts) {
		digits, _ := Naf(k[i], width)
		parts[i] = part{digits, oddRow(p[i])}
		long = max(long, len(digits))
	}
	sum := none
	for i := range long {
		sum = point.Double(sum)
		for j := range len(parts) {
			sum = parts[j].onto(sum, long-1-i)
		}
	}
	return sum
}

// onto answers the sum and the multiple by the digit at that place.
func (p *part) onto(sum api.Point, place int) api.Point {
	if place >= len(p.digits) || p.digits[place] == 0 {
		return sum
	}
	digit := p.digits[place]
	if digit < 0 {
		return point.Add(sum, point.Neg(p.row[-digit/2]))
	}
	return point.Add(sum, p.row[digit/2])
}
