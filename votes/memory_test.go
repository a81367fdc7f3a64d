package votes_test

import (
	"math/rand"
	"testing"
	"unsafe"

	"sandglass/api"
	"sandglass/votes"
)

// shared tells whether two texts have a byte of memory in common.
func shared(a, b string) bool {
	if a == "" || b == "" {
		return false
	}
	from, other := uintptr(unsafe.Pointer(unsafe.StringData(a))), uintptr(unsafe.Pointer(unsafe.StringData(b)))
	return from < other+uintptr(len(b)) && other < from+uintptr(len(a))
}

// R4: what Most hands out shares no memory with what was handed in, nor with another answer.
func TestNewMemory(t *testing.T) {
	for _, length := range []int{2, 3, 100, 4096} {
		v := made(t, 4, 1)
		var l []string
		for from := 1; from <= 4; from++ {
			value := mixed(length, 1)
			putAll(t, v, prevote(from, 0, value))
			l = append(l, value)
		}
		for range 3 {
			value, is := v.Most(2, 0)
			if !is {
				t.Fatal("none")
			}
			l = append(l, value)
		}
		for i := range l {
			for k := range i {
				if shared(l[i], l[k]) {
					t.Errorf("%d bytes: %d and %d share memory", length, k, i)
				}
			}
		}
	}
}

// written is a text whose bytes can be written over.
func written(s string) (string, []byte) {
	b := []byte(s + "behind")
	return unsafe.String(&b[0], len(s)), b
}

// R4: what was handed in is not changed, and not kept: it may be written over behind each call.
func TestNothingKept(t *testing.T) {
	value, other := mixed(300, 1), mixed(300, 2)
	for _, kind := range []int{2, 3} {
		v := made(t, 4, 1)
		for from := 1; from <= 3; from++ {
			text, bytes := written(value)
			w := api.Word{Kind: kind, From: from, Round: 1, Value: text}
			putAll(t, v, w)
			putNone(t, v, w)
			checkCount(t, v, kind, 1, text, from)
			if string(bytes) != value+"behind" {
				t.Errorf("from %d: what was handed in became another one", from)
			}
			copy(bytes, other)
			checkCount(t, v, kind, 1, text, 0)
			checkCount(t, v, kind, 1, value, from)
		}
		checkMost(t, v, kind, 1, value)
		answer, _ := v.Most(kind, 1)
		clear(unsafe.Slice(unsafe.StringData(answer), len(answer)))
		checkMost(t, v, kind, 1, value)
		checkCount(t, v, kind, 1, value, 3)
		checkAny(t, v, kind, 1, 3)
	}
}

// 21.1: two of them share nothing, also of the same n and t, and of the same words.
func TestTwoVotes(t *testing.T) {
	one, two := made(t, 4, 1), made(t, 4, 1)
	if one == two {
		t.Fatal("the same votes twice")
	}
	putAll(t, one, prevote(1, 2, "x"), prevote(2, 2, "x"), prevote(3, 2, "x"))
	checkEmpty(t, two)
	// What the one has is not counted, and bars nothing, in the other one.
	putAll(t, two, prevote(1, 2, "y"), precommit(2, 2, "x"))
	putAll(t, one, precommit(2, 2, "z"))
	checkMost(t, one, 2, 2, "x")
	checkNoMost(t, two, 2, 2)
	checkCount(t, one, 2, 2, "y", 0)
	checkCount(t, two, 2, 2, "y", 1)
	checkCount(t, one, 3, 2, "x", 0)
	checkCount(t, two, 3, 2, "z", 0)
	three := made(t, 7, 2)
	putAll(t, three, prevote(1, 2, "x"), prevote(2, 2, "x"), prevote(7, 2, "x"), prevote(6, 2, "x"))
	checkNoMost(t, three, 2, 2)
	checkAhead(t, three, 1, 2)
	checkAny(t, one, 2, 2, 3)
	checkAny(t, two, 2, 2, 1)
	putNone(t, one, prevote(7, 2, "x"))
}

// 21.1: being asked changes nothing: also of what there is not, again and again.
func TestAskedOften(t *testing.T) {
	v := made(t, 4, 1)
	for range 3 {
		checkEmpty(t, v)
	}
	putAll(t, v, prevote(1, 2, "x"), precommit(2, 2, "x"), prevote(3, 2, ""))
	for range 3 {
		checkAny(t, v, 2, 2, 2)
		checkCount(t, v, 2, 2, "x", 1)
		checkCount(t, v, 2, 2, "z", 0)
		checkCount(t, v, 9, 99, "z", 0)
		checkNoMost(t, v, 2, 2)
		checkAhead(t, v, 1, 2)
		checkAhead(t, v, 2, -1)
	}
	putAll(t, v, prevote(2, 2, "x"), prevote(4, 2, "x"))
	for range 3 {
		checkMost(t, v, 2, 2, "x")
	}
}

// R5: the same words in the same order have the same answers again, though several values have votes.
func TestSameAgain(t *testing.T) {
	values := []string{"", "a", "b", "c", "d", "e", "f"}
	for _, x := range sizes() {
		for seed := range int64(20) {
			r := rand.New(rand.NewSource(seed))
			all := []*votes.Votes{made(t, x.n, x.t), made(t, x.n, x.t), made(t, x.n, x.t)}
			for range 60 {
				w := api.Word{Kind: 1 + r.Intn(4), From: r.Intn(x.n + 2), Round: r.Intn(4), Value: values[r.Intn(1+r.Intn(7))]}
				counts, count, any := all[0].Put(w), all[0].Count(w.Kind, w.Round, w.Value), all[0].Any(w.Kind, w.Round)
				most, is := all[0].Most(w.Kind, w.Round)
				for _, v := range all[1:] {
					if v.Put(w) != counts {
						t.Errorf("counts %v, and again it does not", counts)
					}
					checkCount(t, v, w.Kind, w.Round, w.Value, count)
					checkAny(t, v, w.Kind, w.Round, any)
					if m, also := v.Most(w.Kind, w.Round); m != most || also != is {
						t.Errorf("most %q, %v, and again %q, %v", most, is, m, also)
					}
					checkAhead(t, v, w.Round-1, all[0].Ahead(w.Round-1))
				}
			}
		}
	}
}
