package shamir_test

import (
	"math"
	"math/big"

	"sandglass/api"
)

const (
	top  = math.MaxUint64
	last = 1 << 31 // the last place that may be
)

var (
	q, _     = new(big.Int).SetString("ffffffff00000000ffffffffffffffffbce6faada7179e84f3b9cac2fc632551", 16)
	order    = fromBig(q)
	greatest = api.Num{top, top, top, top}
)

// toBig and fromBig are made of the words alone, so that no layer under the calls judges them.
func toBig(a api.Num) *big.Int {
	n := new(big.Int)
	for i := 3; i >= 0; i-- {
		n.Lsh(n, 64)
		n.Or(n, new(big.Int).SetUint64(a[i]))
	}
	return n
}

func fromBig(n *big.Int) api.Num {
	var a api.Num
	word := new(big.Int).SetUint64(top)
	for i := range a {
		a[i] = new(big.Int).And(new(big.Int).Rsh(n, uint(64*i)), word).Uint64()
	}
	return a
}

// residue is n modulo q, from 0 on, of an n that may be less than 0.
func residue(n *big.Int) api.Num { return fromBig(new(big.Int).Mod(n, q)) }

// near is q + n.
func near(n int64) api.Num { return fromBig(new(big.Int).Add(q, big.NewInt(n))) }

// num is the number of those hexadecimal digits.
func num(digits string) api.Num {
	n, ok := new(big.Int).SetString(digits, 16)
	if !ok {
		panic(digits)
	}
	return fromBig(n)
}

// mixed are n numbers without a pattern, others for each seed; every third one is q or more.
func mixed(n int, seed uint64) []api.Num {
	l := make([]api.Num, n)
	for i := range l {
		for j := range l[i] {
			seed = seed*6364136223846793005 + 1442695040888963407
			l[i][j] = seed ^ seed>>29
		}
		if i%3 == 2 {
			l[i][3] |= 0xffffffff80000000
		}
	}
	return l
}

// edges are the numbers at the ends of what is less than q, and of what a number holds.
func edges() []api.Num {
	return []api.Num{{}, {1}, near(-1), order, near(1), greatest}
}

// plainEval is the polynomial at a place that is not below 0: all powers are exact, and one rest is taken at the end.
func plainEval(c []api.Num, at int) api.Num {
	sum := new(big.Int)
	for i, a := range c {
		power := new(big.Int).Exp(big.NewInt(int64(at)), big.NewInt(int64(i)), nil)
		sum.Add(sum, power.Mul(power, toBig(a)))
	}
	return residue(sum)
}

// plainWeights are those of places that may be, by the document's words: each other place is divided by its distance on its own.
func plainWeights(at []int) []api.Num {
	l := make([]api.Num, len(at))
	for i := range at {
		product := big.NewInt(1)
		for j := range at {
			if j == i {
				continue
			}
			distance := big.NewInt(int64(at[j]) - int64(at[i]))
			product.Mul(product, big.NewInt(int64(at[j])))
			product.Mul(product, distance.ModInverse(distance.Mod(distance, q), q))
			product.Mod(product, q)
		}
		l[i] = fromBig(product)
	}
	return l
}

// plainJoin is the sum of the values with the plain weights, exact till the end.
func plainJoin(l []api.Share) api.Num {
	sum := new(big.Int)
	for i, w := range plainWeights(placesOf(l)) {
		sum.Add(sum, new(big.Int).Mul(toBig(w), toBig(l[i].V)))
	}
	return residue(sum)
}

func placesOf(l []api.Share) []int {
	at := make([]int, len(l))
	for i, s := range l {
		at[i] = s.At
	}
	return at
}

// sharesAt are the plain shares at these places.
func sharesAt(c []api.Num, at []int) []api.Share {
	l := make([]api.Share, len(at))
	for i, place := range at {
		l[i] = api.Share{At: place, V: plainEval(c, place)}
	}
	return l
}

// withValues are shares at these places with these values, which go on from the first again behind the last one.
func withValues(at []int, v []api.Num) []api.Share {
	l := make([]api.Share, len(at))
	for i, place := range at {
		l[i] = api.Share{At: place, V: v[i%len(v)]}
	}
	return l
}

// rising are the places 1 to n.
func rising(n int) []int {
	l := make([]int, n)
	for i := range l {
		l[i] = i + 1
	}
	return l
}

// scattered are n places from 1 to 2^31 in no order, none of them twice, 2^31 and 1 among them from two on.
func scattered(n int) []int {
	l := []int{last, 1}
	seen := map[int]int{last: 1, 1: 1}
	seed := uint64(13)
	for len(l) < n {
		seed = seed*6364136223846793005 + 1442695040888963407
		place := int(seed>>33) + 1
		if seen[place] == 0 {
			seen[place] = 1
			l = append(l, place)
		}
	}
	return l[:n]
}

// orders are the places in all their orders.
func orders(at []int) [][]int {
	if len(at) == 0 {
		return [][]int{nil}
	}
	var l [][]int
	for i := range at {
		rest := append(append([]int{}, at[:i]...), at[i+1:]...)
		for _, o := range orders(rest) {
			l = append(l, append([]int{at[i]}, o...))
		}
	}
	return l
}

// subsets are all choices of some of the shares, in their order, the empty one among them.
func subsets(l []api.Share) [][]api.Share {
	var all [][]api.Share
	for bits := range 1 << len(l) {
		var some []api.Share
		for i, s := range l {
			if bits>>i&1 == 1 {
				some = append(some, s)
			}
		}
		all = append(all, some)
	}
	return all
}
