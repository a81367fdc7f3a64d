package gather_test

import (
	"testing"

	"sandglass/api"
	"sandglass/gather"
)

// 27.1, R1: a gathering that is none keeps nothing and tells nothing; Key tells ErrArg.
func TestNoGather(t *testing.T) {
	var nothing *gather.Gather
	for _, g := range []*gather.Gather{nothing, gather.New(-1, nil), gather.New(1, nil), gather.New(3, commits(two()...))} {
		if g != nil {
			t.Fatalf("%v is there", g)
		}
		for range 2 {
			checkKey(t, g, api.Num{}, api.ErrArg)
			for _, k := range append([]int{-1, 0, 1, 2, 3, 7, last, last + 1}, farInts()...) {
				for _, s := range []api.Share{{}, {At: 1, V: api.Num{8}}, {At: k, V: api.Num{8}}, {At: k, V: greatest}} {
					if g.Put(k, s) || g.Put(0, s) {
						t.Errorf("Put of dealer %d, %v", k, s)
					}
				}
				if got := g.Have(k); got != 0 {
					t.Errorf("Have of %d is %d", k, got)
				}
			}
		}
	}
}

// R1: of any ints every call ends, and does not panic.
func TestAnyInts(t *testing.T) {
	all := append([]int{-2, -1, 0, 1, 2, 3, last, last + 1}, farInts()...)
	for _, faults := range all {
		g := gather.New(faults, [][]api.Point{{base}, {base}})
		if (g != nil) != (faults == 0) {
			t.Errorf("New of %d: %v", faults, g)
		}
		for _, dealer := range all {
			for _, place := range all {
				is := g.Put(dealer, api.Share{At: place, V: api.Num{2}})
				if is || g.Have(dealer) != 0 {
					t.Errorf("t %d: Put of dealer %d at %d: %t", faults, dealer, place, is)
				}
			}
			g.Key()
		}
	}
}
