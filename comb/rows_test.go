package comb_test

import (
	"math/rand"
	"slices"
	"testing"

	"sandglass/api"
	"sandglass/comb"
)

// The kinds of calls.
const (
	doNaf = iota
	doValue
	doOdds
	doMul
	doSum
	doBatch
	kinds
)

// call is one; of doMul the table is that of the place in n.
type call struct {
	kind int
	k    []api.Num
	p    []api.Point
	d    []int
	n    int
}

// answer is what a call was answered.
type answer struct {
	d   []int
	k   api.Num
	p   []api.Point
	err api.Errno
}

func (a answer) same(b answer) bool {
	return slices.Equal(a.d, b.d) && a.k == b.k && slices.Equal(a.p, b.p) && a.err == b.err
}

func ask(tables []*comb.Table, c call) answer {
	var a answer
	switch c.kind {
	case doNaf:
		a.d, a.err = comb.Naf(c.k[0], c.n)
	case doValue:
		a.k = comb.Value(c.d)
	case doOdds:
		a.p = comb.Odds(c.p[0])
	case doMul:
		a.p = []api.Point{tables[c.n].Mul(c.k[0])}
	case doSum:
		a.p = []api.Point{comb.Sum(c.k, c.p)}
	case doBatch:
		a.p = comb.Batch(c.k)
	}
	return a
}

// plain is the answer by big numbers and the library's curve.
func plain(of []api.Point, c call) answer {
	var a answer
	switch c.kind {
	case doNaf:
		a.d, a.err = plainNaf(c.k[0], c.n)
	case doValue:
		a.k = plainValue(c.d)
	case doOdds:
		for i := range 8 {
			a.p = append(a.p, multiple(api.Num{uint64(2*i + 1)}, c.p[0]))
		}
	case doMul:
		a.p = []api.Point{multiple(c.k[0], of[c.n])}
	case doSum:
		a.p = []api.Point{total(c.k, c.p)}
	case doBatch:
		for _, k := range c.k {
			a.p = append(a.p, multiple(k, base))
		}
	}
	return a
}

// anyNum, anyPoint and anyCall are at their edges, near them, or in the midst.
func anyNum(r *rand.Rand) api.Num {
	l := factors()
	switch r.Intn(4) {
	case 0:
		return api.Num{r.Uint64(), r.Uint64(), r.Uint64(), r.Uint64()}
	case 1:
		return power(r.Intn(257), r.Intn(5)-2)
	case 2:
		return api.Num{uint64(r.Intn(200))}
	}
	return l[r.Intn(len(l))]
}

func anyPoint(r *rand.Rand) api.Point {
	good, bad := points(), wrong()
	switch r.Intn(5) {
	case 0:
		return bad[r.Intn(len(bad))]
	case 1:
		return multiple(anyNum(r), base)
	}
	return good[r.Intn(len(good))]
}

func anyCall(r *rand.Rand, tables int) call {
	far := farInts()
	c := call{kind: r.Intn(kinds)}
	for range 1 + r.Intn(3) {
		c.k = append(c.k, anyNum(r))
	}
	for range 1 + r.Intn(3) {
		c.p = append(c.p, anyPoint(r))
	}
	switch c.kind {
	case doNaf:
		c.n = []int{r.Intn(6) + 2, r.Intn(12) - 2, far[r.Intn(len(far))]}[r.Intn(3)]
	case doValue:
		for range r.Intn(300) {
			c.d = append(c.d, []int{r.Intn(9) - 4, far[r.Intn(len(far))]}[r.Intn(2)])
		}
	case doMul:
		c.n = r.Intn(tables)
	}
	return c
}

// 30.1, R5: random rows of calls: each is answered as the plain one answers it, and the same calls in another order have the same answers again.
func TestRandomRows(t *testing.T) {
	t.Parallel()
	r := rand.New(rand.NewSource(317))
	done := make([]int, kinds)
	for range 12 {
		of := []api.Point{base, none, {}}
		var tables []*comb.Table
		for range 3 {
			of = append(of, anyPoint(r))
		}
		for _, p := range of {
			tables = append(tables, comb.New(p))
		}
		var asked []call
		var told []answer
		for range 30 {
			c := anyCall(r, len(tables))
			got, want := ask(tables, c), plain(of, c)
			if !got.same(want) {
				t.Fatalf("%v: %v; want %v", c, got, want)
			}
			asked, told = append(asked, c), append(told, got)
			done[c.kind]++
		}
		for _, i := range r.Perm(len(asked)) {
			if got := ask(tables, asked[i]); !got.same(told[i]) {
				t.Fatalf("%v: again %v; was %v", asked[i], got, told[i])
			}
		}
	}
	for kind, count := range done {
		if count < 30 {
			t.Errorf("kind %d: %d calls", kind, count)
		}
	}
}
