package cast_test

import (
	"math/rand"
	"testing"

	"sandglass/api"
	"sandglass/cast"
)

// letter is a message on its way to a node.
type letter struct {
	to int
	m  api.Cast
}

// nodes are the honest ones of a broadcast, by their numbers, and the letters that are on their way to them.
type nodes struct {
	parts map[int]*cast.Cast
	mail  []letter
}

// gathered are nodes 1 to n without the wrong ones, with nothing on its way.
func gathered(t *testing.T, n, most, from int, wrong ...int) *nodes {
	t.Helper()
	g := &nodes{parts: map[int]*cast.Cast{}}
	for k := 1; k <= n; k++ {
		g.parts[k] = made(t, n, most, from)
	}
	for _, k := range wrong {
		delete(g.parts, k)
	}
	return g
}

// toAll puts a message to each honest node on its way, its sender too, in the order of their numbers.
func (g *nodes) toAll(m api.Cast) {
	for k := 1; k <= 7; k++ {
		if g.parts[k] != nil {
			g.mail = append(g.mail, letter{k, m})
		}
	}
}

// arrive hands over the k-th letter, and puts what is said behind it on its way.
func (g *nodes) arrive(k int) {
	l := g.mail[k]
	g.mail = append(g.mail[:k:k], g.mail[k+1:]...)
	for _, said := range g.parts[l.to].Take(l.m) {
		g.toAll(api.Cast{Kind: said.Kind, From: l.to, Body: said.Body})
	}
}

// run lets all letters arrive, the next one by pick.
func (g *nodes) run(pick func(count int) int) {
	for len(g.mail) > 0 {
		g.arrive(pick(len(g.mail)))
	}
}

// told is what those who are told are told, and how many they are; no two may be told otherwise.
func (g *nodes) told(t *testing.T) (string, int) {
	t.Helper()
	first, count := "", 0
	for k := 1; k <= 7; k++ {
		body, is := g.parts[k].Told()
		if is && count > 0 && body != first {
			t.Errorf("one node is told %q, node %d %q", short(first), k, short(body))
		}
		if is {
			first, count = body, count+1
		}
	}
	return first, count
}

// checkTo holds that all are told body.
func (g *nodes) checkTo(t *testing.T, body string) {
	t.Helper()
	if got, count := g.told(t); got != body || count != len(g.parts) {
		t.Errorf("%d of %d are told, %q; want %q", count, len(g.parts), short(got), short(body))
	}
}

// checkAllOrNone holds that none is told, if not all are.
func (g *nodes) checkAllOrNone(t *testing.T) {
	t.Helper()
	if _, count := g.told(t); count != 0 && count != len(g.parts) {
		t.Errorf("%d of %d are told", count, len(g.parts))
	}
}

func oldest(count int) int { return 0 }

func newest(count int) int { return count - 1 }

// T1, 20.1: a broadcast among honest nodes tells all of them what was sent, in many orders of arrival, of all n and t.
func TestHonest(t *testing.T) {
	for _, x := range sizes() {
		for from := 1; from <= x.n; from++ {
			for _, body := range []string{"x", "", mixed(4096, 1)} {
				for seed := range int64(12) {
					g := gathered(t, x.n, x.t, from)
					g.toAll(send(from, body))
					switch seed {
					case 0:
						g.run(oldest)
					case 1:
						g.run(newest)
					default:
						g.run(rand.New(rand.NewSource(seed)).Intn)
					}
					g.checkTo(t, body)
				}
			}
		}
	}
}

// T1, 20.1: up to t nodes that say nothing at all, the sender not among them: all others are told what was sent.
func TestSilent(t *testing.T) {
	for _, x := range sizes() {
		for a := 2; a <= x.n && x.t > 0; a++ {
			for b := 2; b <= a; b++ {
				wrong := []int{a, b}[:x.t]
				for seed := range int64(5) {
					g := gathered(t, x.n, x.t, 1, wrong...)
					g.toAll(send(1, "x"))
					g.run(rand.New(rand.NewSource(seed)).Intn)
					g.checkTo(t, "x")
				}
			}
		}
	}
}

// choice is the k-th digit of a number whose digits are 0 (nothing is said), 1 and 2.
func choice(number, k int) int {
	for range k {
		number /= 3
	}
	return number % 3
}

// tell puts what a wrong node says to each of the honest ones on its way, by the digits of a number from the k-th on.
func (g *nodes) tell(kind, from, number, k int) {
	for to := 1; to <= 7; to++ {
		if g.parts[to] == nil {
			continue
		}
		if what := choice(number, k); what != 0 {
			g.mail = append(g.mail, letter{to, api.Cast{Kind: kind, From: from, Body: " xy"[what : what+1]}})
		}
		k++
	}
}

// T1, 20.1: of four nodes the sender is wrong, and says to each, of each kind, nothing, x or y: all that it can say. No two are told otherwise, and if one is told, all are.
func TestWrongSender(t *testing.T) {
	counts := map[string]int{}
	for number := range 19683 {
		for _, pick := range []func(int) int{oldest, newest, rand.New(rand.NewSource(int64(number))).Intn} {
			g := gathered(t, 4, 1, 4, 4)
			g.tell(1, 4, number, 0)
			g.tell(2, 4, number, 3)
			g.tell(3, 4, number, 6)
			g.run(pick)
			g.checkAllOrNone(t)
			body, _ := g.told(t)
			counts[body]++
		}
		if t.Failed() {
			t.Fatalf("the sender says %d", number)
		}
	}
	if counts[""] == 0 || counts["x"] == 0 || counts["y"] == 0 {
		t.Errorf("told: %v", counts)
	}
}

// T1, 20.1: of four nodes another than the sender is wrong, and says all that it can say: all others are told what was sent.
func TestWrongNode(t *testing.T) {
	for number := range 729 {
		for seed := range int64(20) {
			g := gathered(t, 4, 1, 1, 3)
			g.tell(2, 3, number, 0)
			g.tell(3, 3, number, 3)
			g.toAll(send(1, "x"))
			g.run(rand.New(rand.NewSource(seed)).Intn)
			g.checkTo(t, "x")
		}
		if t.Failed() {
			t.Fatalf("the node says %d", number)
		}
	}
}

// lie puts what wrong nodes say on its way: many messages to each, of each kind, also such as are refused.
func (g *nodes) lie(r *rand.Rand, n, from int, wrong []int) {
	for to := 1; to <= n; to++ {
		if g.parts[to] == nil {
			continue
		}
		for range 12 {
			m := anyMessage(r, n, from)
			// Who is wrong says what it likes, but in its own name.
			m.From = wrong[r.Intn(len(wrong))]
			g.mail = append(g.mail, letter{to, m})
		}
	}
}

// T1, 20.1: up to t nodes, the sender among them or not, say what they like to each, in many orders; no two are told otherwise at any time; all are told what an honest one sent, and all or none what a wrong one did.
func TestWrongNodes(t *testing.T) {
	r := rand.New(rand.NewSource(21))
	for _, x := range sizes()[7:] {
		for range 400 {
			wrong, from := r.Perm(x.n)[:x.t], 1+r.Intn(x.n)
			for i := range wrong {
				wrong[i]++
			}
			g := gathered(t, x.n, x.t, from, wrong...)
			g.lie(r, x.n, from, wrong)
			honest := g.parts[from] != nil
			if honest {
				g.toAll(send(from, "x"))
			}
			for len(g.mail) > 0 {
				g.arrive(r.Intn(len(g.mail)))
				g.told(t)
			}
			if honest {
				g.checkTo(t, "x")
			} else {
				g.checkAllOrNone(t)
			}
			if t.Failed() {
				t.Fatalf("n %d, t %d, from %d, wrong: %v", x.n, x.t, from, wrong)
			}
		}
	}
}

// T1: letters that are lost or come twice: who is told is told the same, and what an honest one sent.
func TestLost(t *testing.T) {
	r := rand.New(rand.NewSource(22))
	some := 0
	for _, x := range sizes() {
		for range 120 {
			from, wrong := 1+r.Intn(x.n), []int{2, 1}[:x.t]
			g := gathered(t, x.n, x.t, from, wrong...)
			if x.t > 0 {
				g.lie(r, x.n, from, wrong)
			}
			honest := g.parts[from] != nil
			if honest {
				g.toAll(send(from, "y"))
			}
			for len(g.mail) > 0 {
				k := r.Intn(len(g.mail))
				switch r.Intn(20) {
				case 0:
					g.mail = append(g.mail[:k:k], g.mail[k+1:]...)
					continue
				case 1:
					g.mail = append(g.mail, g.mail[k])
				}
				g.arrive(k)
			}
			body, count := g.told(t)
			if honest && count > 0 && body != "y" {
				t.Errorf("told %q", short(body))
			}
			if count > 0 && count < len(g.parts) {
				some++
			}
			if t.Failed() {
				t.Fatalf("n %d, t %d, from %d", x.n, x.t, from)
			}
		}
	}
	if some == 0 {
		t.Error("no letter was lost that mattered")
	}
}

// T1, 20.1: all orders of arrival among two honest nodes.
func TestAllOrders(t *testing.T) {
	// Each order is the row of picks; the next one is counted up from the last pick that can be.
	var row, counts []int
	for {
		g := gathered(t, 2, 0, 1)
		g.toAll(send(1, "x"))
		step := 0
		g.run(func(count int) int {
			if step == len(row) {
				row, counts = append(row, 0), append(counts, count)
			}
			step++
			return row[step-1]
		})
		g.checkTo(t, "x")
		for len(row) > 0 && row[len(row)-1]+1 == counts[len(row)-1] {
			row, counts = row[:len(row)-1], counts[:len(row)-1]
		}
		if len(row) == 0 {
			return
		}
		row[len(row)-1]++
	}
}
