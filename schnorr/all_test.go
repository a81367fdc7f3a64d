package schnorr_test

import (
	"slices"
	"strconv"
	"testing"

	"sandglass/api"
	"sandglass/schnorr"
)

// all asks it, and holds the answer against the plain one, and against what it must be.
func all(t *testing.T, what string, p []api.Point, proofs []string, more string, want bool) {
	t.Helper()
	if plain := plainAll(p, proofs, more); plain != want {
		t.Errorf("%s: the plain one answers %t", what, plain)
	}
	if got := schnorr.All(p, proofs, more); got != want {
		t.Errorf("%s: All(%v, %x, %q): %t", what, p, proofs, more, got)
	}
}

// many are the points of n secrets, and their proofs.
func many(t *testing.T, n int, more string) ([]api.Point, []string) {
	t.Helper()
	var p []api.Point
	var proofs []string
	for i := range uint64(n) {
		k := api.Num{i + 1, i}
		p, proofs = append(p, multiple(k, base)), append(proofs, made(t, k, api.Num{9, i}, more))
	}
	return p, proofs
}

// 31.1: no points and no proofs.
func TestAllOfNothing(t *testing.T) {
	good, proofs := many(t, 1, "x")
	for _, p := range [][]api.Point{nil, {}} {
		for _, s := range [][]string{nil, {}} {
			for _, more := range []string{"", "x"} {
				all(t, "nothing", p, s, more, false)
			}
		}
		all(t, "no points", p, proofs, "x", false)
		all(t, "no points", p, []string{""}, "x", false)
	}
	for _, s := range [][]string{nil, {}} {
		all(t, "no proofs", good, s, "x", false)
		all(t, "no proofs", []api.Point{none}, s, "x", false)
	}
}

// 31.1: as many of both, from one on.
func TestAll(t *testing.T) {
	t.Parallel()
	for _, n := range []int{1, 2, 3, 5, 40} {
		more := strconv.Itoa(n)
		p, proofs := many(t, n, more)
		all(t, "as many of both", p, proofs, more, true)
		all(t, "another text", p, proofs, "", false)
	}
}

// 31.1: one more of either, whether it is a good one or not.
func TestAllOfOthers(t *testing.T) {
	t.Parallel()
	for _, n := range []int{1, 2, 4} {
		p, proofs := many(t, n+1, "x")
		all(t, "one point more", p, proofs[:n], "x", false)
		all(t, "one proof more", p[:n], proofs, "x", false)
		all(t, "one point less", p[1:], proofs, "x", false)
		all(t, "one point more, which is none", append(slices.Clone(p), none), proofs, "x", false)
		all(t, "one proof more, which is empty", p, append(slices.Clone(proofs), ""), "x", false)
		all(t, "the point of no proof", p[:n], append(slices.Clone(proofs[:n]), proofs[n-1]), "x", false)
	}
}

// 31.1: one wrong in each place, of either.
func TestAllOfOneWrong(t *testing.T) {
	t.Parallel()
	const n = 5
	p, proofs := many(t, n, "x")
	all(t, "all right", p, proofs, "x", true)
	for i := range n {
		for _, w := range []string{"", proofs[(i+1)%n], proofs[i][:64], proofs[i] + "\x00", turned(proofs[i], 64, proofs[i][64]^1), turned(proofs[i], 0, 4), made(t, api.Num{uint64(i) + 1, uint64(i)}, api.Num{9}, "y")} {
			l := slices.Clone(proofs)
			l[i] = w
			all(t, "a wrong proof in place "+strconv.Itoa(i), p, l, "x", false)
		}
		for _, w := range []api.Point{none, {}, p[(i+1)%n], opposite(p[i]), {X: p[i].X, Y: p[i].Y, None: true}, {X: p[i].Y, Y: p[i].X}} {
			l := slices.Clone(p)
			l[i] = w
			all(t, "a wrong point in place "+strconv.Itoa(i), l, proofs, "x", false)
		}
	}
}

// 31.1: two wrong ones do not make up for each other.
func TestAllOfTwoWrong(t *testing.T) {
	t.Parallel()
	p, proofs := many(t, 3, "x")
	all(t, "points exchanged", []api.Point{p[1], p[0], p[2]}, proofs, "x", false)
	all(t, "proofs exchanged", p, []string{proofs[0], proofs[2], proofs[1]}, "x", false)
	all(t, "both exchanged", []api.Point{p[1], p[0], p[2]}, []string{proofs[1], proofs[0], proofs[2]}, "x", true)
	up, down := turned(proofs[0], 64, proofs[0][64]+1), turned(proofs[1], 64, proofs[1][64]-1)
	all(t, "z that sum to the right ones", p, []string{up, down, proofs[2]}, "x", false)
	all(t, "bytes that go over to the next", p, []string{proofs[0][:64], proofs[0][64:] + proofs[1], proofs[2]}, "x", false)
}

// 31.1: the same point twice, with the same proof and with another one.
func TestAllOfTheSame(t *testing.T) {
	t.Parallel()
	p := ofBase(5)
	one, other := made(t, api.Num{5}, api.Num{9}, "x"), made(t, api.Num{5}, api.Num{8}, "x")
	all(t, "twice the same", []api.Point{p, p}, []string{one, one}, "x", true)
	all(t, "two proofs of one point", []api.Point{p, p}, []string{one, other}, "x", true)
	all(t, "two proofs of one point", []api.Point{p, p}, []string{one, ""}, "x", false)
	all(t, "a proof of two points", []api.Point{p, ofBase(6)}, []string{one, one}, "x", false)
	all(t, "six of the same", slices.Repeat([]api.Point{p}, 6), slices.Repeat([]string{one}, 6), "x", true)
}
