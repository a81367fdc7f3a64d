package comb_test

import (
	"testing"

	"sandglass/api"
	"sandglass/comb"
	"sandglass/mult"
	"sandglass/point"
)

// checkPoint holds an answer against the one wanted, and to the form in which points are handed out.
func checkPoint(t *testing.T, what string, got, want api.Point, of ...any) {
	t.Helper()
	if got != want {
		t.Errorf("%s of %v: %v; want %v", what, of, got, want)
	}
	if !point.On(got) {
		t.Errorf("%s of %v: %v is not on the curve", what, of, got)
	}
}

// checkOdds holds the eight against chapter 5's multiples, and the library's.
func checkOdds(t *testing.T, p api.Point, l []api.Point) {
	t.Helper()
	if len(l) != 8 {
		t.Fatalf("Odds of %v: %v", p, l)
	}
	for i, got := range l {
		k := api.Num{uint64(2*i + 1)}
		checkPoint(t, "Odds", got, mult.Mul(k, p), p, i)
		checkPoint(t, "Odds", got, multiple(k, p), p, i)
	}
}

// 30.1: of points, and of None.
func TestOdds(t *testing.T) {
	t.Parallel()
	for _, p := range points() {
		checkOdds(t, p, comb.Odds(p))
	}
	for n := int64(-20); n <= 20; n++ {
		checkOdds(t, ofBase(n), comb.Odds(ofBase(n)))
	}
	for _, k := range randoms(5, 302) {
		p := multiple(k, base)
		checkOdds(t, p, comb.Odds(p))
	}
}

// 30.1: the first is the point itself, and all of None are None.
func TestOddsOfFew(t *testing.T) {
	for _, p := range points() {
		l := comb.Odds(p)
		checkPoint(t, "Odds", l[0], p, p)
		checkPoint(t, "Odds", l[1], point.Add(p, point.Double(p)), p)
		for i := range l {
			if p == none && l[i] != none {
				t.Errorf("Odds of None: %v", l)
			}
		}
	}
}

// 30.1: a point that is none of the curve counts as None.
func TestOddsOfWrong(t *testing.T) {
	for _, p := range wrong() {
		l := comb.Odds(p)
		if len(l) != 8 {
			t.Fatalf("%v: %v", p, l)
		}
		for _, got := range l {
			if got != none {
				t.Errorf("%v: %v", p, l)
			}
		}
	}
}
