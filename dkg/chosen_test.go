package dkg_test

import (
	"math/rand"
	"slices"
	"testing"

	"sandglass/dkg"
)

// acksOf are a dealer's acks: of length nodes, of whom so many are true, the first or the last.
func acksOf(length, is int, last bool) []bool {
	l := make([]bool, length)
	for i := range is {
		l[i] = true
	}
	if last {
		slices.Reverse(l)
	}
	return l
}

// 25.1: t is 0 to MaxFault, or there are no dealers.
func TestChosenFault(t *testing.T) {
	all := [][]bool{acksOf(7, 7, false), acksOf(300, 300, false), nil, acksOf(7, 7, false)}
	for _, wrong := range append([]int{-7, -4, -3, -2, -1, 3, 4, 5, 6, 7, 8}, farInts()...) {
		checkChosen(t, wrong, all)
		checkChosen(t, wrong, nil)
		checkChosen(t, wrong, [][]bool{nil, {}, {false}})
	}
	for wrong := range 3 {
		checkChosen(t, wrong, all, 1, 2, 4)
		checkChosen(t, wrong, nil)
		checkChosen(t, wrong, [][]bool{})
	}
}

// 25.1: 2 t + 1 are enough, one less is not, and more do no harm, wherever they stand.
func TestChosenCounts(t *testing.T) {
	for wrong := range 3 {
		for length := range 12 {
			for is := range length + 1 {
				for _, last := range []bool{false, true} {
					l := acksOf(length, is, last)
					if is >= 2*wrong+1 {
						checkChosen(t, wrong, [][]bool{l}, 1)
						checkChosen(t, wrong, [][]bool{nil, l, {}, l}, 2, 4)
					} else {
						checkChosen(t, wrong, [][]bool{l})
						checkChosen(t, wrong, [][]bool{nil, l, {}, l})
					}
				}
			}
		}
	}
}

// 25.1: all lists of up to 9 nodes, one behind the other, as one committee's dealers.
func TestChosenAll(t *testing.T) {
	var acks [][]bool
	for length := range 10 {
		for bits := range 1 << length {
			l := make([]bool, length)
			for i := range l {
				l[i] = bits>>i&1 == 1
			}
			acks = append(acks, l)
		}
	}
	for wrong := -1; wrong < 4; wrong++ {
		got := dkg.Chosen(wrong, acks)
		if want := plainChosen(wrong, acks); !slices.Equal(got, want) || !slices.IsSorted(got) {
			t.Errorf("t %d: %d; want %d", wrong, got, want)
		}
	}
	if n := []int{len(dkg.Chosen(0, acks)), len(dkg.Chosen(1, acks)), len(dkg.Chosen(2, acks))}; !slices.Equal(n, []int{1023 - 10, 1023 - 10 - 45 - 120, 1023 - 10 - 45 - 120 - 210 - 252}) {
		t.Errorf("%d are chosen", n)
	}
}

// 25.1: dealers begin with 1, and rise; those that are not chosen have their place.
func TestChosenPlaces(t *testing.T) {
	yes, no := acksOf(4, 3, true), acksOf(4, 2, false)
	checkChosen(t, 1, [][]bool{yes}, 1)
	checkChosen(t, 1, [][]bool{yes, yes, yes, yes}, 1, 2, 3, 4)
	checkChosen(t, 1, [][]bool{no, yes, no, yes}, 2, 4)
	checkChosen(t, 1, [][]bool{no, no, no, yes}, 4)
	checkChosen(t, 1, [][]bool{nil, {}, yes}, 3)
	checkChosen(t, 1, [][]bool{no, no, no, no})
	for dealers := range 8 {
		for bits := range 1 << dealers {
			var acks [][]bool
			var want []int
			for i := range dealers {
				if bits>>i&1 == 1 {
					acks, want = append(acks, yes), append(want, i+1)
				} else {
					acks = append(acks, [][]bool{no, nil, {}}[i%3])
				}
			}
			checkChosen(t, 1, acks, want...)
		}
	}
}

// 25.1: lists of more than MaxNodes, and more dealers than that.
func TestChosenLong(t *testing.T) {
	for wrong := range 3 {
		for _, length := range []int{7, 8, 9, 64, 256, 257, 300, 1 << 16} {
			enough, few := acksOf(length, 2*wrong+1, true), acksOf(length, 2*wrong, true)
			checkChosen(t, wrong, [][]bool{few, enough, acksOf(length, length, false)}, 2, 3)
		}
		var want []int
		for i := range 300 {
			want = append(want, i+1)
		}
		checkChosen(t, wrong, slices.Repeat([][]bool{acksOf(5, 5, false)}, 300), want...)
	}
	// As many as 256, and more, are not counted in a byte.
	for _, is := range []int{255, 256, 257, 258, 260, 1 << 16, 1<<16 + 1} {
		checkChosen(t, 2, [][]bool{acksOf(1<<16+1, is, false)}, 1)
	}
}

// 25.1: what lies behind a list's end is none of it.
func TestChosenBehindTheEnd(t *testing.T) {
	all := acksOf(8, 8, false)
	checkChosen(t, 1, [][]bool{all[:2], all[:3], all[:0]}, 2)
	checkChosen(t, 1, [][]bool{all, all, all}[:1], 1)
	checkChosen(t, 1, [][]bool{all, all, all}[:0])
}

// 25.1: random rows against the plain count.
func TestChosenRandom(t *testing.T) {
	r := rand.New(rand.NewSource(7))
	sizes := map[int]int{}
	for range 20000 {
		acks := make([][]bool, r.Intn(9))
		often := r.Intn(4)
		for i := range acks {
			acks[i] = make([]bool, r.Intn(10))
			for k := range acks[i] {
				acks[i][k] = r.Intn(4) <= often
			}
		}
		wrong := r.Intn(5) - 1
		want := plainChosen(wrong, acks)
		sizes[len(want)]++
		checkChosen(t, wrong, acks, want...)
	}
	for n := range 8 {
		if sizes[n] < 50 {
			t.Errorf("%d times %d are chosen", sizes[n], n)
		}
	}
}
