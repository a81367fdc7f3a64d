package comb_test

import (
	"math"
	"slices"
	"testing"

	"sandglass/api"
	"sandglass/comb"
)

type known struct {
	k      api.Num
	w      int
	long   int
	digest string
}

// knownDigits are what another program answers.
func knownDigits() []known {
	return []known{
		{mixed, 2, 257, "9cfd5ff3ea0f7550a2a7023a1affc916c5215beb148d2d4e6647fa210301ab01"},
		{mixed, 3, 257, "ede3b9f924c570220e19ed23da7ef00038f6f0922d1d75c33471841b1e7c7889"},
		{mixed, 4, 257, "fe0328ece2e220817975373d21516ae9067bb43af74f9333fb5915c833c97ced"},
		{mixed, 5, 253, "01ba13ca8f471d5216e78a395d165d9caf58a7b4dbd06535ab308cf344c45ab5"},
		{mixed, 6, 253, "eb901a258dad22f5d4f1970362782dad3e8e6a7a159a8bca1511956929f7c490"},
		{mixed, 7, 254, "af249ea823108ac534a3fe0fc4c7b2a3547bf57ac598062d8b277af150b32bbf"},
	}
}

type knownValue struct {
	d    []int
	want api.Num
}

// knownValues are what another program answers.
func knownValues() []knownValue {
	return []knownValue{
		{[]int{-1}, most},
		{[]int{math.MaxInt, math.MinInt}, num("ffffffffffffffffffffffffffffffffffffffffffffffff7fffffffffffffff")},
		{append(slices.Repeat([]int{0}, 255), 3), num("8000000000000000000000000000000000000000000000000000000000000000")},
		{slices.Repeat([]int{math.MinInt}, 300), num("8000000000000000")},
	}
}

type knownMultiple struct {
	k    api.Num
	want api.Point
}

// knownMultiples are the base's, as another program answers; 3's is published, too.
func knownMultiples() []knownMultiple {
	return []knownMultiple{
		{api.Num{3}, api.Point{
			X: num("5ecbe4d1a6330a44c8f7ef951d4bf165e6c6b721efada985fb41661bc6e7fd6c"),
			Y: num("8734640c4998ff7e374b06ce1a64a2ecd82ab036384fb83d9a79b127a27d5032"),
		}},
		{api.Num{15}, api.Point{
			X: num("f0454dc6971abae7adfb378999888265ae03af92de3a0ef163668c63e59b9d5f"),
			Y: num("b5b93ee3592e2d1f4e6594e51f9643e62a3b21ce75b5fa3f47e59cde0d034f36"),
		}},
		{mixed, api.Point{
			X: num("300c3ad4e4ac89bddb346bb3c66cbc846e46895b6492a534d922a62dffb35141"),
			Y: num("feecc7372b3fc5ae693e755646ddf82697b36e5495d58a840abe94daf4756989"),
		}},
		{most, api.Point{
			X: num("f72cbd240e26c0d21b1023179586eb532c6102c49c3677cc1a3d132b9db9d31a"),
			Y: num("43e4ca77e2a36621dc0dbd91bfe7a5d223250ef0cdca831ee453d93fa83408a7"),
		}},
	}
}

// knownSum is one, as another program answers it.
func knownSum() ([]api.Num, []api.Point, api.Point) {
	return []api.Num{{5}, mixed, most}, []api.Point{base, ofBase(77), ofBase(-3)}, api.Point{
		X: num("dc1503e99feb7595f5f0832bdc2989d83950a6b6e4631141ed97230cf5a16efe"),
		Y: num("836bd7fdc90024627be744f81757e315e3652b45181f590fb5423bf5ee07479f"),
	}
}

// The example of the chapter.
func TestExample(t *testing.T) {
	if d, err := comb.Naf(api.Num{7}, 2); !slices.Equal(d, []int{-1, 0, 0, 1}) || err != api.OK {
		t.Errorf("Naf(7, 2): %v, %d", d, err)
	}
}

// 30.1: what another program answers.
func TestKnown(t *testing.T) {
	for _, x := range knownDigits() {
		if d, err := comb.Naf(x.k, x.w); digest(d) != x.digest || len(d) != x.long || err != api.OK {
			t.Errorf("Naf(%x, %d): %v, %d", x.k, x.w, d, err)
		}
	}
	for _, x := range knownValues() {
		if got := comb.Value(x.d); got != x.want {
			t.Errorf("Value(%v): %x; want %x", x.d, got, x.want)
		}
	}
	table := comb.New(base)
	for _, x := range knownMultiples() {
		if got := table.Mul(x.k); got != x.want {
			t.Errorf("Mul(%x): %v; want %v", x.k, got, x.want)
		}
		if got := comb.Batch([]api.Num{x.k}); len(got) != 1 || got[0] != x.want {
			t.Errorf("Batch(%x): %v; want %v", x.k, got, x.want)
		}
	}
	l := comb.Odds(base)
	if l[1] != knownMultiples()[0].want || l[7] != knownMultiples()[1].want {
		t.Errorf("Odds: %v", l)
	}
	k, p, want := knownSum()
	if got := comb.Sum(k, p); got != want {
		t.Errorf("Sum: %v; want %v", got, want)
	}
}
