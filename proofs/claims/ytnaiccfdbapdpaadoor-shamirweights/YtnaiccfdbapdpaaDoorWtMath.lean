/-
  The document's Weights (sandglassref13), called: the weights of places, or the error; nothing old is turned.
-/
import Derived.Test.YtnaiccfdbapdpaaDoorRefSame
namespace Go.Proofs.YtnaiccfdbapdpaaDoor
open Go.RowKit
/-- Places that may be. -/
def OkP (P : Nat → Int) (n : Nat) : Prop := 0 < n ∧ ∀ i, i < n → (1 ≤ P i ∧ P i ≤ 2147483648) ∧ ∀ k, k < i → P k ≠ P i
def OkT (P : Nat → Int) (n : Nat) : Prop := ∀ i, i < n → (1 ≤ P i ∧ P i ≤ 2147483648) ∧ ∀ k, k < i → P k ≠ P i
theorem OkT.step {P : Nat → Int} {n : Nat} (h : OkT P n) (h1 : 1 ≤ P n ∧ P n ≤ 2147483648) (h2 : ∀ k, k < n → P k ≠ P n) : OkT P (n + 1) := by
  intro i hi
  by_cases e : i = n
  · subst e; exact ⟨h1, h2⟩
  · exact h i (by omega)
/-- The cells of k numbers modulo q. -/
def nml (X : Nat → Int) : Nat → List Value
  | 0 => []
  | k + 1 => nml X k ++ [.int .u64 (qw (X k) 0), .int .u64 (qw (X k) 1), .int .u64 (qw (X k) 2), .int .u64 (qw (X k) 3)]
theorem nml_len (X : Nat → Int) : ∀ k, (nml X k).length = k * 4
  | 0 => rfl
  | k + 1 => by unfold nml; rw [List.length_append, nml_len X k]; show k * 4 + 4 = _; omega
theorem nml_at (X : Nat → Int) : ∀ k j, j < k * 4 → (nml X k)[j]? = some (nc (fun i j => qw (X i) j) j)
  | 0, j, h => by omega
  | k + 1, j, h => by
    unfold nml
    by_cases e : j < k * 4
    · rw [List.getElem?_append_left (by rw [nml_len]; exact e)]; exact nml_at X k j e
    · rw [List.getElem?_append_right (by rw [nml_len]; omega), nml_len]
      obtain ⟨d, rfl⟩ : ∃ d, j = k * 4 + d := ⟨j - k * 4, by omega⟩
      have hd : d < 4 := by omega
      rw [nc_at _ _ _ hd, show k * 4 + d - k * 4 = d from by omega]
      have : d = 0 ∨ d = 1 ∨ d = 2 ∨ d = 3 := by omega
      rcases this with rfl | rfl | rfl | rfl <;> rfl
theorem news4 (w : World) {a b c d : Value} {t : TypeId} : ∀ j u, [a, b, c, d][j]? = some u → (w.alloc (.cells #[a, b, c, d] t)).cell? (Addr.add ⟨w.heap.size, 0, none⟩ j) = some u := by
  intro j u h
  match j, h with
  | 0, h => simp at h; subst h; simp [Addr.add]
  | 1, h => simp at h; subst h; simp [Addr.add]
  | 2, h => simp at h; subst h; simp [Addr.add]
  | 3, h => simp at h; subst h; simp [Addr.add]
theorem num_one (a b c d : Int) : ∀ u ∈ [Value.int .u64 a, .int .u64 b, .int .u64 c, .int .u64 d], u.oneCell' = true := by
  intro u h
  simp at h
  rcases h with rfl | rfl | rfl | rfl <;> rfl
theorem Lies.int {w : World} {a : Option Addr} {n cap : Nat} {P : Nat → Int} (h : Lies w (.slice a n cap) n 1 (fun k => .int .i64 (P k))) {i : Nat} (hi : i < n) :
    ∃ b o, a = some ⟨b, o, none⟩ ∧ b < w.heap.size ∧ w.cell? ⟨b, o + i, none⟩ = some (.int .i64 (P i)) := by
  obtain ⟨a', cap', e, h⟩ := h
  cases e
  obtain ⟨b, o, ha, hb, hc⟩ := h (by omega)
  exact ⟨b, o, ha, hb, hc i (by omega)⟩
theorem Row.grown {w w' : World} {b : Nat} {x0 x1 x2 x3 : Int} {r : Option Nat} (h : Row w b x0 x1 x2 x3) (hg : w.grownBy w' r) (hne : some b ≠ r) : Row w' b x0 x1 x2 x3 :=
  ⟨Nat.lt_of_lt_of_le h.1 hg.size, hg.cell h.2.1 hne, hg.cell h.2.2.1 hne, hg.cell h.2.2.2.1 hne, hg.cell h.2.2.2.2 hne⟩
theorem RowF.grown {w w' : World} {b : Nat} {x0 x1 x2 x3 : Int} {r : Option Nat} (h : RowF w b x0 x1 x2 x3) (hg : w.grownBy w' r) (hne : some b ≠ r) : RowF w' b x0 x1 x2 x3 := by
  have e : ∀ j, w'.frozen? ⟨b, j, none⟩ = w.frozen? ⟨b, j, none⟩ := fun j => World.frozen?_of_block (hg.block b h.1.1 hne)
  exact ⟨h.1.grown hg hne, (e 0).trans h.2.1, (e 1).trans h.2.2.1, (e 2).trans h.2.2.2.1, (e 3).trans h.2.2.2.2⟩
theorem okp_i64 {P : Nat → Int} {n i : Nat} (h : OkT P n) (hi : i < n) : I64 (P i) ∧ plc (P i) = P i := by
  have := (h i hi).1
  unfold I64 plc
  rw [if_neg (by omega)]
  omega
/-- One factor more of the upper product. -/
theorem up_step {P : Nat → Int} {i k : Nat} {u0 u1 u2 u3 m0 m1 m2 m3 : Int} (hki : k ≠ i) (hu : QMod (prE P i k) u0 u1 u2 u3) (hm : QMod (val u0 u1 u2 u3 * val (P k) 0 0 0) m0 m1 m2 m3) : QMod (prE P i (k + 1)) m0 m1 m2 m3 := by
  refine hm.cong ?_
  rw [hu.2, val_one, modq_mul_mod]
  show _ = (if k = i then prE P i k else prE P i k * P k) % FQ
  rw [if_neg hki]
theorem down_step {P : Nat → Int} {i k : Nat} {u0 u1 u2 u3 d0 d1 d2 d3 m0 m1 m2 m3 : Int} (hki : k ≠ i) (hu : QMod (prE (fun k => P k - P i) i k) u0 u1 u2 u3) (hd : QMod (val (P k) 0 0 0 - val (P i) 0 0 0) d0 d1 d2 d3) (hm : QMod (val u0 u1 u2 u3 * val d0 d1 d2 d3) m0 m1 m2 m3) : QMod (prE (fun k => P k - P i) i (k + 1)) m0 m1 m2 m3 := by
  refine hm.cong ?_
  rw [hu.2, hd.2, val_one, val_one, modq_mul_mod, mul_modq_mod]
  show _ = (if k = i then prE (fun k => P k - P i) i k else prE (fun k => P k - P i) i k * (P k - P i)) % FQ
  rw [if_neg hki]
theorem skip_step {f : Nat → Int} {i : Nat} {u0 u1 u2 u3 : Int} (hu : QMod (prE f i i) u0 u1 u2 u3) : QMod (prE f i (i + 1)) u0 u1 u2 u3 := by
  have : prE f i (i + 1) = prE f i i := by
    show (if i = i then prE f i i else prE f i i * f i) = _
    rw [if_pos rfl]
  rwa [this]
theorem wgt_end {P : Nat → Int} {i n : Nat} {u0 u1 u2 u3 d0 d1 d2 d3 v0 v1 v2 v3 m0 m1 m2 m3 : Int} (hu : QMod (prE P i n) u0 u1 u2 u3) (hd : QMod (prE (fun k => P k - P i) i n) d0 d1 d2 d3) (hv : InvP (val d0 d1 d2 d3) v0 v1 v2 v3) (hm : QMod (val u0 u1 u2 u3 * val v0 v1 v2 v3) m0 m1 m2 m3) : QMod (wI P i n) m0 m1 m2 m3 := by
  have hq := invP_qiv hv
  rw [qiv_cong (A := val d0 d1 d2 d3) (B := prE (fun k => P k - P i) i n) (by rw [hd.2, Int.emod_emod_of_dvd _ (Int.dvd_refl _)])] at hq
  refine hm.cong ?_
  rw [hu.2, hq.2, modq_mul_mod, mul_modq_mod]
  rfl
theorem one_mod : QMod 1 1 0 0 0 := ⟨⟨lim_of _ rfl, lim_of _ rfl, lim_of _ rfl, lim_of _ rfl⟩, by decide⟩
/-- What the upper product's statement reads. -/
def WU (w : World) (g : Nat) (u0 u1 u2 u3 : Int) (b o : Nat) (x : Int) (wx : World) : Prop :=
  Row wx g u0 u1 u2 u3 ∧ wx.cell? ⟨b, o, none⟩ = some (.int .i64 x) ∧ Ext w wx
theorem WU.ext {w wx wy : World} {g b o : Nat} {u0 u1 u2 u3 x : Int} (h : WU w g u0 u1 u2 u3 b o x wx) (hx : Ext wx wy) : WU w g u0 u1 u2 u3 b o x wy := ⟨h.1.ext hx, later hx h.2.1, h.2.2.trans hx⟩
def WD (w : World) (g : Nat) (u0 u1 u2 u3 : Int) (b o o' : Nat) (x x' : Int) (wx : World) : Prop :=
  Row wx g u0 u1 u2 u3 ∧ wx.cell? ⟨b, o, none⟩ = some (.int .i64 x) ∧ wx.cell? ⟨b, o', none⟩ = some (.int .i64 x') ∧ Ext w wx
theorem WD.ext {w wx wy : World} {g b o o' : Nat} {u0 u1 u2 u3 x x' : Int} (h : WD w g u0 u1 u2 u3 b o o' x x' wx) (hx : Ext wx wy) : WD w g u0 u1 u2 u3 b o o' x x' wy := ⟨h.1.ext hx, later hx h.2.1, later hx h.2.2.1, h.2.2.2.trans hx⟩
def WE (w : World) (g h : Nat) (u0 u1 u2 u3 d0 d1 d2 d3 : Int) (wx : World) : Prop := Row wx g u0 u1 u2 u3 ∧ Row wx h d0 d1 d2 d3 ∧ Ext w wx
theorem WE.ext {w wx wy : World} {g h : Nat} {u0 u1 u2 u3 d0 d1 d2 d3 : Int} (k : WE w g h u0 u1 u2 u3 d0 d1 d2 d3 wx) (hx : Ext wx wy) : WE w g h u0 u1 u2 u3 d0 d1 d2 d3 wy := ⟨k.1.ext hx, k.2.1.ext hx, k.2.2.trans hx⟩
end Go.Proofs.YtnaiccfdbapdpaaDoor
