package comb_test

import (
	"math"
	"math/rand"
	"slices"
	"testing"

	"sandglass/api"
	"sandglass/comb"
)

func value(t *testing.T, d []int) {
	t.Helper()
	if got, want := comb.Value(d), plainValue(d); got != want {
		t.Errorf("Value(%v): %x; want %x", d, got, want)
	}
}

// at is a row of that many digits, all 0 but one.
func at(long, place, digit int) []int {
	d := make([]int, long)
	d[place] = digit
	return d
}

// someDigits are negative, even, 0, and at the edges of ints.
func someDigits() []int {
	return append([]int{0, 1, 2, 3, 4, 63, 64, 127, -1, -2, -3, -4, -63, -64, -127, math.MaxInt, math.MinInt, math.MinInt + 1}, farInts()...)
}

// 30.1: what is worked out by hand.
func TestValueOfFew(t *testing.T) {
	for _, x := range []struct {
		d    []int
		want api.Num
	}{
		{nil, api.Num{}},
		{[]int{}, api.Num{}},
		{[]int{0}, api.Num{}},
		{[]int{5}, api.Num{5}},
		{[]int{-1}, most},
		{[]int{-2}, api.Num{top - 1, top, top, top}},
		{[]int{1, 1}, api.Num{3}},
		{[]int{-1, 0, 0, 1}, api.Num{7}},
		{[]int{1, -1}, most},
		{[]int{2, -1}, api.Num{}},
		{[]int{4, 4, 4}, api.Num{28}},
		{[]int{math.MaxInt}, api.Num{math.MaxInt}},
		{[]int{math.MinInt}, api.Num{1 << 63, top, top, top}},
		{[]int{math.MinInt, 0, 0, 0, math.MaxInt}, api.Num{1<<63 - 16, 7}},
		{[]int{math.MaxInt, math.MaxInt}, api.Num{1<<63 - 3, 1}},
	} {
		if got := comb.Value(x.d); got != x.want {
			t.Errorf("Value(%v): %x; want %x", x.d, got, x.want)
		}
	}
}

// 30.1: each digit counts 2 to the power of its place; beyond 255 it counts nothing.
func TestValueOfOneDigit(t *testing.T) {
	t.Parallel()
	for _, digit := range someDigits() {
		for _, place := range []int{0, 1, 2, 62, 63, 64, 127, 128, 191, 192, 193, 250, 254, 255, 256, 257, 300} {
			value(t, at(place+1, place, digit))
		}
	}
	for place := range 300 {
		for _, digit := range []int{1, -1, 3, math.MinInt, math.MaxInt} {
			value(t, at(300, place, digit))
		}
		want := api.Num{}
		if place < 256 {
			want = power(place, 0)
		}
		if got := comb.Value(at(300, place, 1)); got != want {
			t.Errorf("place %d: %x", place, got)
		}
	}
}

// 30.1: rows around 256 digits, and of many more.
func TestValueOfLongRows(t *testing.T) {
	t.Parallel()
	for _, long := range []int{1, 2, 63, 64, 65, 128, 255, 256, 257, 258, 320, 512, 513, 1000, 100000} {
		for _, digit := range []int{0, 1, 2, -1, -2, 127, math.MaxInt, math.MinInt} {
			value(t, slices.Repeat([]int{digit}, long))
		}
	}
	row := slices.Repeat([]int{1}, 256)
	if got := comb.Value(row); got != most {
		t.Errorf("256 digits of 1: %x", got)
	}
	for range 70 {
		row = append(row, -1)
		if got := comb.Value(row); got != most {
			t.Errorf("%d digits: %x", len(row), got)
		}
	}
}

// 30.1: rows without a pattern, whose sums go below 0 and beyond 2^256.
func TestValueOfRandomRows(t *testing.T) {
	t.Parallel()
	r := rand.New(rand.NewSource(30))
	edges := someDigits()
	for range 1500 {
		d := make([]int, r.Intn([]int{4, 70, 260, 600}[r.Intn(4)]))
		kind := r.Intn(4)
		for i := range d {
			switch kind {
			case 0:
				d[i] = int(r.Uint64())
			case 1:
				d[i] = edges[r.Intn(len(edges))]
			case 2:
				d[i] = r.Intn(5) - 2
			case 3:
				d[i] = r.Intn(255) - 127
			}
		}
		value(t, d)
	}
}

// 30.1: a digit, and what stands below it, cancel each other.
func TestValueOfNought(t *testing.T) {
	for place := range 255 {
		d := at(256, place+1, -1)
		d[place] = 2
		if got := comb.Value(d); got != (api.Num{}) {
			t.Errorf("place %d: %x", place, got)
		}
	}
	// Beyond 2^256 by the last digit alone.
	if got := comb.Value(at(256, 255, 2)); got != (api.Num{}) {
		t.Errorf("2^256: %x", got)
	}
}
