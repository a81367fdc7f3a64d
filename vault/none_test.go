package vault_test

import (
	"testing"

	"sandglass/api"
	"sandglass/vault"
)

// 28.2, R1: of a vault that is none Do, Emit and Open tell ErrArg, whatever they are asked; the others do and tell nothing.
func TestNoVault(t *testing.T) {
	var nothing *vault.Vault
	refused, _ := standard(2, 1).vault()
	empty, _ := setting{}.vault()
	for _, v := range []*vault.Vault{nothing, refused, empty} {
		if v != nil {
			t.Fatalf("%v is there", v)
		}
		for range 2 {
			for _, c := range []api.Command{{}, keyCommand(0, keyOf(7)), keyCommand(0, noKey), putCommand(0, "f", ""), putCommand(64, "f", ""), pruneCommand(0), pruneCommand(-1)} {
				if err := v.Do(c); err != api.ErrArg {
					t.Errorf("Do of %d: %d", c.Kind, err)
				}
			}
			for _, k := range append([]int{-1, 0, 1, 2, 63, 64}, farInts()...) {
				v.Tick(k)
				if l, err := v.Emit(k); len(l) != 0 || err != api.ErrArg {
					t.Errorf("Emit of %d: %v, %d", k, l, err)
				}
				if v.Take(k, 0, api.Share{At: 1, V: api.Num{8}}) || v.Take(0, k, api.Share{At: 1, V: api.Num{8}}) || v.Take(0, 0, api.Share{At: k}) || v.Take(k, k, api.Share{}) {
					t.Errorf("Take of %d", k)
				}
			}
			for _, name := range []string{"", "f", zeros} {
				if text, err := v.Open(name); text != "" || err != api.ErrArg {
					t.Errorf("Open of %q: %q, %d", short(name), text, err)
				}
			}
			v.Sync()
			for _, keep := range someKeeps() {
				v.Crash(keep)
			}
			if l := v.List(); len(l) != 0 {
				t.Errorf("List is %q", l)
			}
		}
	}
}
