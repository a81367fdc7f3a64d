package comb_test

import (
	"math"
	"slices"
	"testing"

	"sandglass/api"
	"sandglass/comb"
)

// naf holds the answer against the plain one, and to 30.2; it answers it.
func naf(t *testing.T, k api.Num, w int) []int {
	t.Helper()
	got, err := comb.Naf(k, w)
	want, wantErr := plainNaf(k, w)
	if !slices.Equal(got, want) || err != wantErr {
		t.Errorf("Naf(%x, %d): %v, %d; want %v, %d", k, w, got, err, want, wantErr)
	}
	if err == api.OK {
		follows(t, k, w, got)
	}
	return got
}

// follows is 30.2: of w digits side by side at most one is not 0, each is odd and less than 2^(w-1) or 0, the last one is not 0, and their value is the number.
func follows(t *testing.T, k api.Num, w int, d []int) {
	t.Helper()
	last := -w
	for i, digit := range d {
		if digit == 0 {
			continue
		}
		if i-last < w {
			t.Errorf("Naf(%x, %d): two of %v", k, w, d[last:i+1])
		}
		if half := 1 << (w - 1); digit%2 == 0 || digit >= half || digit <= -half {
			t.Errorf("Naf(%x, %d): digit %d", k, w, digit)
		}
		last = i
	}
	if len(d) > 0 && last != len(d)-1 {
		t.Errorf("Naf(%x, %d): the last digit of %v is 0", k, w, d)
	}
	if got := comb.Value(d); got != k {
		t.Errorf("Naf(%x, %d): %v, whose value is %x", k, w, d, got)
	}
}

func nafOfAllWidths(t *testing.T, k api.Num) {
	t.Helper()
	for w := 2; w <= 7; w++ {
		naf(t, k, w)
	}
}

// 30.1, 30.2: what is worked out by hand.
func TestNafOfFew(t *testing.T) {
	for _, x := range []struct {
		k    api.Num
		w    int
		want []int
	}{
		{api.Num{1}, 2, []int{1}},
		{api.Num{1}, 7, []int{1}},
		{api.Num{2}, 2, []int{0, 1}},
		{api.Num{3}, 2, []int{-1, 0, 1}},
		{api.Num{3}, 3, []int{3}},
		{api.Num{4}, 3, []int{0, 0, 1}},
		{api.Num{5}, 2, []int{1, 0, 1}},
		{api.Num{5}, 3, []int{-3, 0, 0, 1}},
		{api.Num{6}, 3, []int{0, 3}},
		{api.Num{7}, 3, []int{-1, 0, 0, 1}},
		{api.Num{7}, 4, []int{7}},
		{api.Num{9}, 4, []int{-7, 0, 0, 0, 1}},
		{api.Num{63}, 7, []int{63}},
		{api.Num{65}, 7, []int{-63, 0, 0, 0, 0, 0, 0, 1}},
		{api.Num{127}, 7, []int{-1, 0, 0, 0, 0, 0, 0, 1}},
		{api.Num{129}, 7, []int{1, 0, 0, 0, 0, 0, 0, 1}},
	} {
		if d, err := comb.Naf(x.k, x.w); !slices.Equal(d, x.want) || err != api.OK {
			t.Errorf("Naf(%d, %d): %v, %d; want %v", x.k[0], x.w, d, err, x.want)
		}
	}
}

// 30.1: 0 has no digits.
func TestNafOfNothing(t *testing.T) {
	for w := 2; w <= 7; w++ {
		if d, err := comb.Naf(api.Num{}, w); len(d) != 0 || err != api.OK {
			t.Errorf("Naf(0, %d): %v, %d", w, d, err)
		}
	}
}

// 30.1, 30.2: all small numbers, and those as near to 2^256, whose digits may go beyond 256 bits.
func TestNafOfSmallAndGreat(t *testing.T) {
	t.Parallel()
	for i := range 1200 {
		nafOfAllWidths(t, api.Num{uint64(i)})
	}
	for i := range 300 {
		nafOfAllWidths(t, beside(most, -i))
	}
}

// 30.1, 30.2: powers of 2 and their neighbours, and the same seen from 2^256.
func TestNafOfPowers(t *testing.T) {
	t.Parallel()
	for i := range 257 {
		for d := -3; d <= 3; d++ {
			k := power(i, d)
			nafOfAllWidths(t, k)
			nafOfAllWidths(t, api.Num{^k[0], ^k[1], ^k[2], ^k[3]})
		}
	}
}

// 30.1, 30.2: q, the prime, and numbers near them, and others at the ends of words.
func TestNafOfEdges(t *testing.T) {
	t.Parallel()
	for _, k := range factors() {
		for d := -20; d <= 20; d++ {
			nafOfAllWidths(t, beside(k, d))
		}
	}
}

// 30.1, 30.2: numbers without a pattern, of all lengths.
func TestNafOfRandom(t *testing.T) {
	t.Parallel()
	for i, k := range randoms(600, 301) {
		nafOfAllWidths(t, k)
		for j := range k {
			// Words that are 0 or full let a digit's rest go far.
			switch (i >> (2 * j)) % 4 {
			case 1:
				k[j] = 0
			case 2:
				k[j] = top
			case 3:
				k[j] >>= uint(i) % 64
			}
		}
		nafOfAllWidths(t, k)
	}
}

// 30.1: the digits of 2^256 - 1 are -1 and, beyond 256 bits, 1.
func TestNafBeyond(t *testing.T) {
	for w := 2; w <= 7; w++ {
		d, err := comb.Naf(most, w)
		want := slices.Repeat([]int{0}, 257)
		want[0], want[256] = -1, 1
		if !slices.Equal(d, want) || err != api.OK {
			t.Errorf("width %d: %v, %d", w, d, err)
		}
	}
}

// 30.1: no digits of another width than 2 to 7, whatever the number.
func TestNafOfWrongWidths(t *testing.T) {
	for _, w := range append([]int{1, 0, -1, -2, -3, -5, -7, 8, 9, 10, 32, 63, 64, 65, 66, 71, 128, math.MinInt, math.MaxInt}, farInts()...) {
		for _, k := range []api.Num{{}, {1}, {7}, {8}, q, mixed, most} {
			if d, err := comb.Naf(k, w); len(d) != 0 || err != api.ErrArg {
				t.Errorf("Naf(%x, %d): %v, %d", k, w, d, err)
			}
		}
	}
}
