/-
  Slices that are read: cells of a slice by their number. No function of the program is named here.
-/
import Derived.Test.YtdpplmfgbglkhaaStr
import Derived.Deep.AppendLies
namespace Go.Proofs.Ytdpplmfgbglkhaa
open Go.RowKit
/-- The slice v of n elements of sz cells each: its cell k holds g k. -/
def Lies (w : World) (v : Value) (n sz : Nat) (g : Nat → Value) : Prop :=
  ∃ (a : Option Addr) (cap : Nat), v = .slice a n cap ∧ (0 < n → ∃ b o, a = some ⟨b, o, none⟩ ∧ b < w.heap.size ∧ ∀ k, k < n * sz → w.cell? ⟨b, o + k, none⟩ = some (g k))
theorem Lies.ext {w w' : World} {v : Value} {n sz : Nat} {g : Nat → Value} (h : Lies w v n sz g) (hx : Ext w w') : Lies w' v n sz g := by
  obtain ⟨a, cap, hv, h⟩ := h
  refine ⟨a, cap, hv, fun hn => ?_⟩
  obtain ⟨b, o, ha, hb, hc⟩ := h hn
  exact ⟨b, o, ha, Nat.lt_of_lt_of_le hb hx.size, fun k hk => later hx (hc k hk)⟩
theorem Lies.congr {w : World} {v : Value} {n sz : Nat} {g g' : Nat → Value} (h : Lies w v n sz g) (e : ∀ k, k < n * sz → g k = g' k) : Lies w v n sz g' := by
  obtain ⟨a, cap, hv, h⟩ := h
  refine ⟨a, cap, hv, fun hn => ?_⟩
  obtain ⟨b, o, ha, hb, hc⟩ := h hn
  exact ⟨b, o, ha, hb, fun k hk => by rw [hc k hk, e k hk]⟩
theorem lies_nil (w : World) (sz : Nat) (g : Nat → Value) : Lies w (.slice none 0 0) 0 sz g := ⟨none, 0, rfl, fun h => absurd h (Nat.lt_irrefl 0)⟩
/-- What a call has built by append is read so. -/
theorem Lies.own {w : World} {base : Nat} {e : TypeId} {sz : Nat} {v : Value} {n : Nat} {xs : List Value} (h : w.ownsRow base e sz v n xs) {g : Nat → Value} (hg : ∀ k, k < n * sz → xs[k]? = some (g k)) : Lies w v n sz g := by
  rcases h.2 with ⟨rfl, rfl⟩ | ⟨b, cap, cur, rfl, _, hb, hn, _, hs, hx⟩
  · exact lies_nil _ _ _
  · refine ⟨_, cap, rfl, fun _ => ⟨b, 0, rfl, ?_, fun k hk => ?_⟩⟩
    · rcases Nat.lt_or_ge b w.heap.size with hlt | hge
      · exact hlt
      · rw [Array.getElem?_eq_none hge] at hb; cases hb
    · have := hg k hk
      rw [← hx, List.getElem?_take_of_lt hk] at this
      simp only [World.cell?, hb, Nat.zero_add]
      simpa using this
theorem Ext.grown {a w w' : World} {base : Nat} {e : TypeId} {sz : Nat} {v : Value} {n : Nat} {xs : List Value} (h : Ext a w) (ho : w.ownsRow base e sz v n xs) (hb : a.heap.size ≤ base) (hg : w.grownBy w' v.ownBlock) : Ext a w' :=
  Below.grown h hg h.size fun k hk => Nat.le_trans hb (ho.lt k hk).1
theorem own_setCell {w : World} {base : Nat} {e : TypeId} {sz : Nat} {v : Value} {n : Nat} {xs : List Value} (h : w.ownsRow base e sz v n xs) {b i : Nat} {u : Value} (hne : v.ownBlock ≠ some b) : (w.setCell ⟨b, i, none⟩ u).ownsRow base e sz v n xs := by
  refine ⟨h.1, ?_⟩
  rcases h.2 with h0 | ⟨g, cap, cur, hv, hb, hg, rest⟩
  · exact .inl h0
  · refine .inr ⟨g, cap, cur, hv, hb, ?_, rest⟩
    rw [Below.heap_setCell w ⟨b, i, none⟩ u g (fun q => hne (by rw [hv]; exact congrArg some q))]
    exact hg
end Go.Proofs.Ytdpplmfgbglkhaa
