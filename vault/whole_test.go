package vault_test

import (
	"math/rand"
	"slices"
	"testing"

	"sandglass/api"
	"sandglass/dkg"
	"sandglass/ledger"
	"sandglass/mult"
	"sandglass/seal"
	"sandglass/sec1"
	"sandglass/vault"
)

// 28.2, T2: each answer is the catalogue's behind what was done, while the log has room: against ledger.Play.
func TestIsTheCatalogue(t *testing.T) {
	t.Parallel()
	r := rand.New(rand.NewSource(2))
	for range 30 {
		x := anySide(t, r)
		var commands []api.Command
		for range 60 {
			c := x.anyCommand(r)
			c.Body = c.Body[:min(len(c.Body), 700)]
			commands = append(commands, c)
		}
		catalogue, answers := ledger.Play(commands)
		for i, c := range commands {
			if got := x.v.Do(c); got != answers[i] {
				t.Fatalf("command %d, kind %d, epoch %d, %q: %d; the catalogue tells %d", i, c.Kind, c.Epoch, short(c.Name), got, answers[i])
			}
		}
		if got, want := x.v.List(), catalogue.List(); !slices.Equal(got, want) {
			t.Fatalf("List is %q; the catalogue's %q", got, want)
		}
	}
}

// T3: whatever readings and crashes come, an epoch's shares go out only behind a reading of its time or more, and always behind one.
func TestTime(t *testing.T) {
	t.Parallel()
	r := rand.New(rand.NewSource(3))
	s := setting{n: 4, t: 1, me: 1, deals: []api.Deal{dealt(4, [][]api.Num{{{5}, {3}}, {{1}, {1}}, {{6}, {2}}, {{8}, {1}}})}, chosen: []int{1}}
	for range 60 {
		s.begin, s.each = r.Intn(30), 1+r.Intn(10)
		v, _ := s.vault()
		most := -1
		for range 40 {
			switch r.Intn(4) {
			case 0:
				v.Crash(r.Uint64())
			case 1:
				v.Sync()
			default:
				now := r.Intn(80) - 10
				v.Tick(now)
				most = max(most, now, 0)
			}
			for epoch := range 4 {
				want := api.OK
				if most < s.begin+epoch*s.each {
					want = api.ErrEarly
				}
				if l, err := v.Emit(epoch); err != want || len(l) != map[api.Errno]int{api.OK: 1}[err] {
					t.Fatalf("begin %d, each %d, most %d: Emit of %d: %v, %d", s.begin, s.each, most, epoch, l, err)
				}
			}
		}
	}
}

// 28.2, T4: with keeps whose bits are set from the lowest on without a gap, what is there behind a crash is what was synced, and a beginning of the rest.
func TestSyncedIsThere(t *testing.T) {
	t.Parallel()
	r := rand.New(rand.NewSource(4))
	for range 120 {
		v, _ := standard(1).vault()
		done := []api.Command{keyCommand(0, keyOf(5))}
		v.Do(done[0])
		sure := 0
		for i := range 12 {
			if r.Intn(4) == 0 {
				v.Sync()
				sure = len(done)
			}
			c := putCommand(0, string([]byte{byte('a' + i)}), mixed(r.Intn(200), r.Uint64()))
			if v.Do(c) != api.OK {
				t.Fatal("a put")
			}
			done = append(done, c)
		}
		v.Crash(1<<r.Intn(40) - 1)
		l := v.List()
		there := len(l) + 1
		if there == 1 && v.Do(keyCommand(0, noKey)) == api.ErrPoint {
			there = 0
		}
		catalogue, _ := ledger.Play(done[:there])
		if there < sure || !slices.Equal(l, catalogue.List()) {
			t.Fatalf("%d were synced, and behind the crash there are %q", sure, l)
		}
	}
}

// 28.2, T5: four nodes, one of them wrong, and three dealers, one of whom is not chosen: what is sealed to an epoch's key is opened by every node behind its time, whatever wrong shares come, and nothing else is.
func TestNodesTogether(t *testing.T) {
	t.Parallel()
	deals := dealsOf(4, polynomials())
	chosen := dkg.Chosen(1, [][]bool{{true, true, true, true}, {true, false, true}, {false, true, true, true}})
	if !slices.Equal(chosen, []int{1, 3}) {
		t.Fatalf("chosen %d", chosen)
	}
	keys := dkg.Keys(deals, chosen)
	var nodes []*vault.Vault
	for me := 1; me <= 4; me++ {
		v, err := vault.New(4, 1, me, deals, chosen, 100, 50)
		if err != api.OK {
			t.Fatal(err)
		}
		nodes = append(nodes, v)
	}
	files := []string{"of the first epoch", "of the second one"}
	for epoch, p := range keys {
		key, _ := sec1.Encode(p)
		body, _ := seal.Seal(p, api.Num{9, 9}, files[epoch])
		other, _ := seal.Seal(mult.Base(api.Num{77}), api.Num{9, 9}, files[epoch])
		for _, v := range nodes {
			name := string([]byte{byte('0' + epoch)})
			for _, c := range []api.Command{keyCommand(epoch, key), putCommand(epoch, name, body), putCommand(epoch, "not "+name, other)} {
				if err := v.Do(c); err != api.OK {
					t.Fatal(err)
				}
			}
			v.Sync()
		}
	}
	for epoch, now := range []int{100, 150} {
		exchange(t, nodes, epoch, now)
		for me, v := range nodes {
			for e := range 2 {
				name := string([]byte{byte('0' + e)})
				want, wantErr := files[e], api.OK
				if e > epoch {
					want, wantErr = "", api.ErrShare
				}
				if text, err := v.Open(name); text != want || err != wantErr {
					t.Errorf("node %d, behind epoch %d, opens %q: %q, %d", me+1, epoch, name, text, err)
				}
				if text, err := v.Open("not " + name); text != "" || err == api.OK {
					t.Errorf("node %d opens what is sealed to another key: %q", me+1, text)
				}
			}
		}
	}
}

// exchange lets the clocks of the nodes go to now, one after the other, and each hand out its shares of the epoch to all. Node 4 tells wrong ones, and one node crashes ahead of its tick.
func exchange(t *testing.T, nodes []*vault.Vault, epoch, now int) {
	t.Helper()
	for me, v := range nodes {
		v.Tick(now - 1)
		if l, err := v.Emit(epoch); err != api.ErrEarly || len(l) != 0 {
			t.Errorf("node %d, ahead of epoch %d: %v, %d", me+1, epoch, l, err)
		}
	}
	for _, me := range []int{3, 0, 1, 2} {
		if me == 0 && epoch == 0 {
			nodes[me].Crash(0)
		}
		nodes[me].Tick(now)
		l, err := nodes[me].Emit(epoch)
		if err != api.OK || len(l) != 2 {
			t.Fatalf("node %d, of epoch %d: %v, %d", me+1, epoch, l, err)
		}
		for _, v := range nodes {
			for dealer, s := range l {
				if me == 3 {
					s.V = plus(s.V, int64(1+dealer))
				}
				is := v.Take(epoch, dealer, s)
				if me == 3 && is {
					t.Errorf("a wrong share is kept")
				}
			}
		}
	}
}
