/-
  A gate of package release: what lies in its block; its clocks, called; its times.
-/
import Derived.Test.YtdpplmfgbglkhaaGRef
import Derived.Test.YtdpplmfgbglkhaaMem
import Derived.Test.YtdpplmfgbglkhaaHeld
namespace Go.Proofs.Ytdpplmfgbglkhaa
open Go.RowKit
/-- So many epochs are open, the first ones: those whose times are at most M. -/
structure Opn (B E M o : Int) : Prop where
  o0 : 0 ≤ o
  o1 : o ≤ 64
  am : ∀ e, 0 ≤ e → e < o → B + e * E ≤ M
  no : o ≤ 63 → M < B + o * E
theorem Opn.open {B E N M o : Int} (h : Opn B E M o) (hk : GOk B E N M) (e : Int) : (decide (0 ≤ e) && decide (e < o)) = rO B E M e := by
  obtain ⟨o0, o1, am, no⟩ := h
  unfold rO
  by_cases h0 : e < 0
  · rw [rT_out (.inl h0), decide_eq_false (show ¬ 0 ≤ e by omega), decide_eq_false (show ¬ (0 : Int) ≤ -1 by decide)]; rfl
  · by_cases h1 : 63 < e
    · rw [rT_out (.inr h1), decide_eq_false (show ¬ e < o by omega), decide_eq_false (show ¬ (0 : Int) ≤ -1 by decide), Bool.and_false]; rfl
    · have hn := rT_nums hk h0 h1
      have hb := hk.b0
      rw [rT_in h0 h1, decide_eq_true (show 0 ≤ e by omega), decide_eq_true (show 0 ≤ B + e * E by omega)]
      by_cases h2 : e < o
      · rw [decide_eq_true h2, decide_eq_true (am e (by omega) h2)]
      · have := no (by omega)
        have hm : o * E ≤ e * E := Int.mul_le_mul_of_nonneg_right (by omega) (by have := hk.e0; omega)
        rw [decide_eq_false h2, decide_eq_false (by omega)]
theorem Opn.new {B E N : Int} (hk : GOk B E N (-1)) : Opn B E (-1) 0 := ⟨by decide, by decide, fun e h0 h1 => by omega, fun _ => by have := hk.b0; omega⟩
/-- A look at a reading n, so far. -/
structure Lkg (B E M n o0 o : Int) : Prop where
  l0 : o0 ≤ o
  l1 : o ≤ 64
  lm : ∀ e, 0 ≤ e → e < o → B + e * E ≤ max M n
theorem Lkg.start {B E M o : Int} (n : Int) (h : Opn B E M o) : Lkg B E M n o o := ⟨Int.le_refl _, h.o1, fun e h0 h1 => by have := h.am e h0 h1; omega⟩
theorem Lkg.step {B E M n o0 o : Int} (h : Lkg B E M n o0 o) (h0 : 0 ≤ o) (h1 : o ≤ 63) (h2 : B + o * E ≤ n) : Lkg B E M n o0 (o + 1) := by
  refine ⟨by have := h.l0; omega, by omega, fun e q0 q1 => ?_⟩
  by_cases q : e < o
  · exact h.lm e q0 q
  · obtain rfl : e = o := by omega
    omega
theorem Lkg.done {B E N M n o0 o : Int} (hk : GOk B E N M) (ho : Opn B E M o0) (h : Lkg B E M n o0 o) (hd : o ≤ 63 → n < B + o * E) : Opn B E (max M n) o := by
  refine ⟨by have := h.l0; have := ho.o0; omega, h.l1, h.lm, fun q => ?_⟩
  have h1 := hd q
  have h2 := ho.no (by have := h.l0; omega)
  have hm : o0 * E ≤ o * E := Int.mul_le_mul_of_nonneg_right h.l0 (by have := hk.e0; omega)
  omega
/-- A gate's block: its times, its clock, how many epochs are open. -/
def GB (W : World) (g : Nat) (B E : Int) (c : Value) (o : Int) : Prop := g < W.heap.size ∧ W.cell? ⟨g, 0, none⟩ = some (.int .i64 B) ∧ W.cell? ⟨g, 1, none⟩ = some (.int .i64 E) ∧ W.cell? ⟨g, 2, none⟩ = some c ∧ W.cell? ⟨g, 3, none⟩ = some (.int .i64 o) ∧ W.frozen? ⟨g, 2, none⟩ = false ∧ W.frozen? ⟨g, 3, none⟩ = false
theorem GB.new (W : World) (t : TypeId) (B E : Int) (c : Value) (o : Int) : GB (W.alloc (.cells #[.int .i64 B, .int .i64 E, c, .int .i64 o] t)) W.heap.size B E c o :=
  ⟨by simp, by rw [World.cell?_alloc_at _ _ _ _ rfl]; rfl, by rw [World.cell?_alloc_at _ _ _ _ rfl]; rfl, by rw [World.cell?_alloc_at _ _ _ _ rfl]; rfl, by rw [World.cell?_alloc_at _ _ _ _ rfl]; rfl, World.frozen?_alloc_at _ _ _ _ rfl, World.frozen?_alloc_at _ _ _ _ rfl⟩
theorem GB.keep {W W2 : World} {g : Nat} {B E o : Int} {c : Value} (h : GB W g B E c o) (hs : W.heap.size ≤ W2.heap.size) (hb : W2.heap[g]? = W.heap[g]?) : GB W2 g B E c o := by
  obtain ⟨h1, h2, h3, h4, h5, h6, h7⟩ := h
  exact ⟨Nat.lt_of_lt_of_le h1 hs, (World.cell?_of_block (a := ⟨g, 0, none⟩) hb).trans h2, (World.cell?_of_block (a := ⟨g, 1, none⟩) hb).trans h3, (World.cell?_of_block (a := ⟨g, 2, none⟩) hb).trans h4, (World.cell?_of_block (a := ⟨g, 3, none⟩) hb).trans h5, (World.frozen?_of_block (a := ⟨g, 2, none⟩) hb).trans h6, (World.frozen?_of_block (a := ⟨g, 3, none⟩) hb).trans h7⟩
theorem GB.ext {W W2 : World} {g : Nat} {B E o : Int} {c : Value} (h : GB W g B E c o) (hx : Ext W W2) : GB W2 g B E c o := h.keep hx.size (Below.block hx g h.1)
theorem GB.clock {W : World} {g : Nat} {B E o : Int} {c : Value} (h : GB W g B E c o) (c2 : Value) : GB (W.setCell ⟨g, 2, none⟩ c2) g B E c2 o := by
  obtain ⟨h1, h2, h3, h4, h5, h6, h7⟩ := h
  refine ⟨by simpa using h1, ?_, ?_, ?_, ?_, ?_, ?_⟩ <;> simp [World.cell?_setCell_other, World.cell?_setCell_same, h2, h3, h4, h5, h6, h7]
theorem GB.more {W : World} {g : Nat} {B E o : Int} {c : Value} (h : GB W g B E c o) (o2 : Int) : GB (W.setCell ⟨g, 3, none⟩ (.int .i64 o2)) g B E c o2 := by
  obtain ⟨h1, h2, h3, h4, h5, h6, h7⟩ := h
  refine ⟨by simpa using h1, ?_, ?_, ?_, ?_, ?_, ?_⟩ <;> simp [World.cell?_setCell_other, World.cell?_setCell_same, h2, h3, h4, h5, h6, h7]
set_option maxHeartbeats 1000000 in
theorem within_any (n l h : Int) (w : World) : Calls Try.prog 20 #[.int .i64 n, .int .i64 l, .int .i64 h] w fun r w' => r = .returned (.int .i64 (min (max n l) h)) ∧ w' = w := by
  obtain ⟨x0, h0⟩ : ∃ x, max n l = x := ⟨_, rfl⟩
  rw [h0]
  obtain ⟨x2, h2⟩ : ∃ x, min x0 h = x := ⟨_, rfl⟩
  rw [h2]
  rw [← max_if] at h0
  rw [← min_if] at h2
  go_enter Try.func20, Try.ntmps20
  go_wp2
  go_ret
  exact ⟨rfl, rfl⟩
theorem snow_any (w : World) : Calls Try.prog 37 #[.agg #[]] w fun r w' => r = .returned (.int .i64 0) ∧ Ext w w' := by
  go_enter Try.func37, Try.ntmps37
  go_wp2
  go_ret
  exact ⟨rfl, (Ext.refl w).alloc _⟩
theorem spassed_any (t : Int) (w : World) : Calls Try.prog 38 #[.agg #[], .int .i64 t] w fun r w' => r = .returned (.bool false) ∧ Ext w w' := by
  go_enter Try.func38, Try.ntmps38
  go_wp2
  go_ret
  exact ⟨rfl, (Ext.refl w).alloc _⟩
theorem rnow_any (n : Int) (w : World) : Calls Try.prog 39 #[.int .i64 n] w fun r w' => r = .returned (.int .i64 n) ∧ Ext w w' := by
  go_enter Try.func39, Try.ntmps39
  go_wp2
  go_ret
  exact ⟨rfl, Ext.refl w⟩
theorem rpassed_any (n t : Int) (w : World) : Calls Try.prog 40 #[.int .i64 n, .int .i64 t] w fun r w' => r = .returned (.bool (decide (t ≤ n))) ∧ Ext w w' := by
  go_enter Try.func40, Try.ntmps40
  go_wp2
  go_ret
  exact ⟨rfl, Ext.refl w⟩
set_option maxHeartbeats 2000000 in
theorem time_any {W : World} {g : Nat} {B E N M o : Int} {c : Value} (hk : GOk B E N M) (hb : GB W g B E c o) (e : Int) : Calls Try.prog 18 #[.pointer (some ⟨g, 0, none⟩), .int .i64 e] W fun r w' => r = .returned (.int .i64 (rT B E e)) ∧ Ext W w' := by
  obtain ⟨hg, c0, c1, -, -, -, -⟩ := hb
  by_cases h0 : e < 0
  · rw [rT_out (.inl h0)]
    go_enter Try.func18, Try.ntmps18
    go_wp2
    go_ret
    exact ⟨rfl, Ext.refl W⟩
  · by_cases h1 : 63 < e
    · rw [rT_out (.inr h1)]
      go_enter Try.func18, Try.ntmps18
      go_wp2
      go_ret
      exact ⟨rfl, Ext.refl W⟩
    · rw [rT_in h0 h1]
      have hn := rT_nums hk h0 h1
      have hb0 := hk.b0
      have hb1 := hk.b1
      have q1 : IntKind.i64.wrap (e * E) = e * E := wz (by omega) (by omega)
      have q2 : IntKind.i64.wrap (B + e * E) = B + e * E := wz (by omega) (by omega)
      clear hn hb0 hb1 hk
      go_enter Try.func18, Try.ntmps18
      go_wp2_with fail
      go_region
      go_wp2
      go_ret
      exact ⟨rfl, (Ext.refl W).drew⟩
end Go.Proofs.Ytdpplmfgbglkhaa
