/-
  The document's product in words of 32 bits (sandglassref01.Wide), called; nothing old is turned.
-/
import Derived.Test.YtnaiccfdbapdpaaDoorHalves
import Derived.Test.YtnaiccfdbapdpaaDoorMaths
import Derived.Deep.DeepCutAuto
import Derived.Deep.QuietTactic
import Derived.BigQuiet
namespace Go.Proofs.YtnaiccfdbapdpaaDoor
open Go.RowKit
/-- The eight halves of four words. -/
def hx (x0 x1 x2 x3 : Int) (i : Nat) : Int := if i = 0 then lo32 x0 else if i = 1 then hi32 x0 else if i = 2 then lo32 x1 else if i = 3 then hi32 x1 else if i = 4 then lo32 x2 else if i = 5 then hi32 x2 else if i = 6 then lo32 x3 else hi32 x3
def Row8 (w : World) (b : Nat) (X : Nat → Int) : Prop := ∀ i, i < 8 → w.cell? ⟨b, i, none⟩ = some (.int .u64 (X i))
theorem Row8.of {w : World} {b : Nat} {x0 x1 x2 x3 : Int} (h0 : w.cell? ⟨b, 0, none⟩ = some (.int .u64 (lo32 x0))) (h1 : w.cell? ⟨b, 1, none⟩ = some (.int .u64 (hi32 x0))) (h2 : w.cell? ⟨b, 2, none⟩ = some (.int .u64 (lo32 x1))) (h3 : w.cell? ⟨b, 3, none⟩ = some (.int .u64 (hi32 x1)))
    (h4 : w.cell? ⟨b, 4, none⟩ = some (.int .u64 (lo32 x2))) (h5 : w.cell? ⟨b, 5, none⟩ = some (.int .u64 (hi32 x2))) (h6 : w.cell? ⟨b, 6, none⟩ = some (.int .u64 (lo32 x3))) (h7 : w.cell? ⟨b, 7, none⟩ = some (.int .u64 (hi32 x3))) : Row8 w b (hx x0 x1 x2 x3) := by
  intro i hi
  have : i = 0 ∨ i = 1 ∨ i = 2 ∨ i = 3 ∨ i = 4 ∨ i = 5 ∨ i = 6 ∨ i = 7 := by omega
  rcases this with rfl | rfl | rfl | rfl | rfl | rfl | rfl | rfl
  · exact h0
  · exact h1
  · exact h2
  · exact h3
  · exact h4
  · exact h5
  · exact h6
  · exact h7
/-- Sixteen words as an array's cells. -/
def f16 (P : Nat → Int) : Array Value := #[.int .u64 (P 0), .int .u64 (P 1), .int .u64 (P 2), .int .u64 (P 3), .int .u64 (P 4), .int .u64 (P 5), .int .u64 (P 6), .int .u64 (P 7), .int .u64 (P 8), .int .u64 (P 9), .int .u64 (P 10), .int .u64 (P 11), .int .u64 (P 12), .int .u64 (P 13), .int .u64 (P 14), .int .u64 (P 15)]
theorem f16_get (P : Nat → Int) (j : Nat) (h : j < 16) : (f16 P)[j]? = some (.int .u64 (P j)) := by
  have : j = 0 ∨ j = 1 ∨ j = 2 ∨ j = 3 ∨ j = 4 ∨ j = 5 ∨ j = 6 ∨ j = 7 ∨ j = 8 ∨ j = 9 ∨ j = 10 ∨ j = 11 ∨ j = 12 ∨ j = 13 ∨ j = 14 ∨ j = 15 := by omega
  rcases this with rfl | rfl | rfl | rfl | rfl | rfl | rfl | rfl | rfl | rfl | rfl | rfl | rfl | rfl | rfl | rfl <;> rfl
theorem f16_set (P : Nat → Int) (j : Nat) (h : j < 16) (v : Int) : (f16 P).setIfInBounds j (.int .u64 v) = f16 (fun i => if i = j then v else P i) := by
  have : j = 0 ∨ j = 1 ∨ j = 2 ∨ j = 3 ∨ j = 4 ∨ j = 5 ∨ j = 6 ∨ j = 7 ∨ j = 8 ∨ j = 9 ∨ j = 10 ∨ j = 11 ∨ j = 12 ∨ j = 13 ∨ j = 14 ∨ j = 15 := by omega
  rcases this with rfl | rfl | rfl | rfl | rfl | rfl | rfl | rfl | rfl | rfl | rfl | rfl | rfl | rfl | rfl | rfl <;> simp [f16]
theorem wrap_small8 (i j : Nat) (hi : i < 8) (hj : j < 8) : IntKind.i64.wrap ((i : Int) + (j : Int)) = (i : Int) + (j : Int) := by
  rw [IntKind.wrap_i64]
  omega
theorem lo32_half (x : Int) : Half (lo32 x) := by unfold Half lo32; omega
theorem hi32_half {x : Int} (h : Lim x) : Half (hi32 x) := by unfold Half hi32; unfold Lim at h; omega
theorem hx_half {x0 x1 x2 x3 : Int} (h : Lim4 x0 x1 x2 x3) (i : Nat) : Half (hx x0 x1 x2 x3 i) := by
  obtain ⟨h0, h1, h2, h3⟩ := h
  have := lo32_half x0; have := lo32_half x1; have := lo32_half x2; have := lo32_half x3
  have := hi32_half h0; have := hi32_half h1; have := hi32_half h2; have := hi32_half h3
  unfold hx
  repeat (split; assumption)
  assumption
theorem word_ok {p x y c t : Int} (hp : Half p) (hx : Half x) (hy : Half y) (hc : Half c) (ht : IntKind.u64.wrap (IntKind.u64.wrap (p + IntKind.u64.wrap (x * y)) + c) = t) :
    Half (bits BinOp.and IntKind.u64 t 4294967295) ∧ Half (t / 4294967296) ∧ bits BinOp.and IntKind.u64 t 4294967295 + 4294967296 * (t / 4294967296) = p + x * y + c := by
  have h := round_ok hp hx hy hc
  simp only [IntKind.wrap_u64] at ht
  unfold Half at *
  generalize x * y = q at *
  have e : t = p + q + c := by omega
  have hl : Lim t := by unfold Lim; omega
  rw [and32 t hl]
  omega
theorem keepW {W0 w wx : World} {ba bb : Nat} {a0 a1 a2 a3 b0 b1 b2 b3 : Int} (hb : Ext w wx) (h : Ext W0 w ∧ w.cell? ⟨ba, 0, none⟩ = some (.int .u64 a0) ∧ w.cell? ⟨ba, 1, none⟩ = some (.int .u64 a1) ∧ w.cell? ⟨ba, 2, none⟩ = some (.int .u64 a2) ∧ w.cell? ⟨ba, 3, none⟩ = some (.int .u64 a3) ∧ w.cell? ⟨bb, 0, none⟩ = some (.int .u64 b0) ∧ w.cell? ⟨bb, 1, none⟩ = some (.int .u64 b1) ∧ w.cell? ⟨bb, 2, none⟩ = some (.int .u64 b2) ∧ w.cell? ⟨bb, 3, none⟩ = some (.int .u64 b3)) : Ext W0 wx ∧ wx.cell? ⟨ba, 0, none⟩ = some (.int .u64 a0) ∧ wx.cell? ⟨ba, 1, none⟩ = some (.int .u64 a1) ∧ wx.cell? ⟨ba, 2, none⟩ = some (.int .u64 a2) ∧ wx.cell? ⟨ba, 3, none⟩ = some (.int .u64 a3) ∧ wx.cell? ⟨bb, 0, none⟩ = some (.int .u64 b0) ∧ wx.cell? ⟨bb, 1, none⟩ = some (.int .u64 b1) ∧ wx.cell? ⟨bb, 2, none⟩ = some (.int .u64 b2) ∧ wx.cell? ⟨bb, 3, none⟩ = some (.int .u64 b3) :=
  ⟨h.1.trans hb, later hb h.2.1, later hb h.2.2.1, later hb h.2.2.2.1, later hb h.2.2.2.2.1, later hb h.2.2.2.2.2.1, later hb h.2.2.2.2.2.2.1, later hb h.2.2.2.2.2.2.2.1, later hb h.2.2.2.2.2.2.2.2⟩
attribute [local go_sem] setCell_drewN alloc_drewN
set_option maxHeartbeats 4000000 in
theorem wide_raw (a0 a1 a2 a3 b0 b1 b2 b3 : Int) (ha : Lim4 a0 a1 a2 a3) (hb : Lim4 b0 b1 b2 b3) (w : World) :
    Calls Tryd.prog 56 #[.agg #[.int .u64 a0, .int .u64 a1, .int .u64 a2, .int .u64 a3], .agg #[.int .u64 b0, .int .u64 b1, .int .u64 b2, .int .u64 b3]] w fun e w' =>
      ∃ P : Nat → Int, e = .returned (.agg (f16 P)) ∧ Hid (OutP (hx a0 a1 a2 a3) (hx b0 b1 b2 b3) 8 P) ∧ Ext w w' := by
  have HR := Row.two w a0 a1 a2 a3 b0 b1 b2 b3
  have RA := HR.1.ext ((Ext.refl _).alloc (.cells #[.int .u64 0, .int .u64 0, .int .u64 0, .int .u64 0, .int .u64 0, .int .u64 0, .int .u64 0, .int .u64 0, .int .u64 0, .int .u64 0, .int .u64 0, .int .u64 0, .int .u64 0, .int .u64 0, .int .u64 0, .int .u64 0] 77))
  have RB := HR.2.ext ((Ext.refl _).alloc (.cells #[.int .u64 0, .int .u64 0, .int .u64 0, .int .u64 0, .int .u64 0, .int .u64 0, .int .u64 0, .int .u64 0, .int .u64 0, .int .u64 0, .int .u64 0, .int .u64 0, .int .u64 0, .int .u64 0, .int .u64 0, .int .u64 0] 77))
  have HE0 : Hid (Ext w (((w.alloc (.cells #[.int .u64 a0, .int .u64 a1, .int .u64 a2, .int .u64 a3] 26)).alloc (.cells #[.int .u64 b0, .int .u64 b1, .int .u64 b2, .int .u64 b3] 26)).alloc (.cells #[.int .u64 0, .int .u64 0, .int .u64 0, .int .u64 0, .int .u64 0, .int .u64 0, .int .u64 0, .int .u64 0, .int .u64 0, .int .u64 0, .int .u64 0, .int .u64 0, .int .u64 0, .int .u64 0, .int .u64 0, .int .u64 0] 77))) := (((Ext.refl _).alloc _).alloc _).alloc _
  have HZ : Hid (∀ i, i < 16 → (((w.alloc (.cells #[.int .u64 a0, .int .u64 a1, .int .u64 a2, .int .u64 a3] 26)).alloc (.cells #[.int .u64 b0, .int .u64 b1, .int .u64 b2, .int .u64 b3] 26)).alloc (.cells #[.int .u64 0, .int .u64 0, .int .u64 0, .int .u64 0, .int .u64 0, .int .u64 0, .int .u64 0, .int .u64 0, .int .u64 0, .int .u64 0, .int .u64 0, .int .u64 0, .int .u64 0, .int .u64 0, .int .u64 0, .int .u64 0] 77)).cell? ⟨w.heap.size + 1 + 1, i, none⟩ = some (.int .u64 0) ∧ (((w.alloc (.cells #[.int .u64 a0, .int .u64 a1, .int .u64 a2, .int .u64 a3] 26)).alloc (.cells #[.int .u64 b0, .int .u64 b1, .int .u64 b2, .int .u64 b3] 26)).alloc (.cells #[.int .u64 0, .int .u64 0, .int .u64 0, .int .u64 0, .int .u64 0, .int .u64 0, .int .u64 0, .int .u64 0, .int .u64 0, .int .u64 0, .int .u64 0, .int .u64 0, .int .u64 0, .int .u64 0, .int .u64 0, .int .u64 0] 77)).frozen? ⟨w.heap.size + 1 + 1, i, none⟩ = false) := by
    intro i hi
    rw [World.cell?_alloc_at _ _ _ _ (by simp), World.frozen?_alloc_at _ _ _ _ (by simp)]
    exact ⟨f16_get (fun _ => 0) i hi, rfl⟩
  have HZl : Hid (w.heap.size + 1 + 1 < (((w.alloc (.cells #[.int .u64 a0, .int .u64 a1, .int .u64 a2, .int .u64 a3] 26)).alloc (.cells #[.int .u64 b0, .int .u64 b1, .int .u64 b2, .int .u64 b3] 26)).alloc (.cells #[.int .u64 0, .int .u64 0, .int .u64 0, .int .u64 0, .int .u64 0, .int .u64 0, .int .u64 0, .int .u64 0, .int .u64 0, .int .u64 0, .int .u64 0, .int .u64 0, .int .u64 0, .int .u64 0, .int .u64 0, .int .u64 0] 77)).heap.size) := by show _ < _; simp
  clear HR
  go_enter Tryd.func56, Tryd.ntmps56
  go_wp2_with fail
  generalize ((w.alloc (.cells #[.int .u64 a0, .int .u64 a1, .int .u64 a2, .int .u64 a3] 26)).alloc (.cells #[.int .u64 b0, .int .u64 b1, .int .u64 b2, .int .u64 b3] 26)).alloc (.cells #[.int .u64 0, .int .u64 0, .int .u64 0, .int .u64 0, .int .u64 0, .int .u64 0, .int .u64 0, .int .u64 0, .int .u64 0, .int .u64 0, .int .u64 0, .int .u64 0, .int .u64 0, .int .u64 0, .int .u64 0, .int .u64 0] 77) = W0 at *
  have HBz : SizeLe w (w.heap.size + 1 + 1) := by unfold SizeLe; omega
  generalize w.heap.size + 1 + 1 = bz at *
  generalize w.heap.size + 1 = bb at *
  generalize w.heap.size = ba at *
  have hba : ba < W0.heap.size := RA.1
  have hbb : bb < W0.heap.size := RB.1
  have start : Hid ((fun wx : World => Ext W0 wx ∧ wx.cell? ⟨ba, 0, none⟩ = some (.int .u64 a0) ∧ wx.cell? ⟨ba, 1, none⟩ = some (.int .u64 a1) ∧ wx.cell? ⟨ba, 2, none⟩ = some (.int .u64 a2) ∧ wx.cell? ⟨ba, 3, none⟩ = some (.int .u64 a3) ∧ wx.cell? ⟨bb, 0, none⟩ = some (.int .u64 b0) ∧ wx.cell? ⟨bb, 1, none⟩ = some (.int .u64 b1) ∧ wx.cell? ⟨bb, 2, none⟩ = some (.int .u64 b2) ∧ wx.cell? ⟨bb, 3, none⟩ = some (.int .u64 b3)) W0) := ⟨Ext.refl _, RA.2.1, RA.2.2.1, RA.2.2.2.1, RA.2.2.2.2, RB.2.1, RB.2.2.1, RB.2.2.2.1, RB.2.2.2.2⟩
  clear RA RB
  have hl0 : W0.heap.size ≤ W0.heap.size := Nat.le_refl _
  have hl1 : W0.heap.size ≤ W0.heap.size + 1 := Nat.le_succ _
  go_cut [5, 6] (fun s5 s6 wx => ∃ b5 b6 : Nat, s5 = .pointer (some ⟨b5, 0, none⟩) ∧ s6 = .pointer (some ⟨b6, 0, none⟩) ∧ Row8 wx b5 (hx a0 a1 a2 a3) ∧ Row8 wx b6 (hx b0 b1 b2 b3) ∧ Ext W0 wx)
  case first =>
    go_region_held3 (fun wx : World => Ext W0 wx ∧ wx.cell? ⟨ba, 0, none⟩ = some (.int .u64 a0) ∧ wx.cell? ⟨ba, 1, none⟩ = some (.int .u64 a1) ∧ wx.cell? ⟨ba, 2, none⟩ = some (.int .u64 a2) ∧ wx.cell? ⟨ba, 3, none⟩ = some (.int .u64 a3) ∧ wx.cell? ⟨bb, 0, none⟩ = some (.int .u64 b0) ∧ wx.cell? ⟨bb, 1, none⟩ = some (.int .u64 b1) ∧ wx.cell? ⟨bb, 2, none⟩ = some (.int .u64 b2) ∧ wx.cell? ⟨bb, 3, none⟩ = some (.int .u64 b3)) ((refine keepW ?_ start.out; simp (maxDischargeDepth := 30) only [Ext.refl, extAlloc, extDrew, Ext.st, *])) (first | (go_at_call 65; refine (halves_any _ _ _ _ (by assumption) _).mono ?_; rintro e wy ⟨rfl, HX⟩; have hEy : Ext W0 wy := (by refine Ext.trans ?_ HX; simp only [*]); have hz0 : W0.heap.size ≤ wy.heap.size := hEy.size; have hz1 : W0.heap.size ≤ wy.heap.size + 1 := Nat.le_succ_of_le hz0; have htr : ∀ b, b < _ → b < wy.heap.size := (fun b h => Nat.lt_of_lt_of_le h HX.size); have hsz := HX.size; (try simp at hsz); (try have hs1 := Nat.lt_of_succ_le hsz); (try have hs2 := Nat.lt_of_succ_lt (Nat.lt_of_succ_le hsz)); obtain ⟨hcc, hff⟩ := HX.cells; (try simp at hcc); (try simp at hff)))
    all_goals
      go_wp2
      go_meet
      case rel => exact ⟨_, _, rfl, rfl, Row8.of (by first | (go_simp; done) | (go_simp; exact World.cell?_setCell_same' _ _ _ (by go_simp))) (by first | (go_simp; done) | (go_simp; exact World.cell?_setCell_same' _ _ _ (by go_simp))) (by first | (go_simp; done) | (go_simp; exact World.cell?_setCell_same' _ _ _ (by go_simp))) (by first | (go_simp; done) | (go_simp; exact World.cell?_setCell_same' _ _ _ (by go_simp))) (by first | (go_simp; done) | (go_simp; exact World.cell?_setCell_same' _ _ _ (by go_simp))) (by first | (go_simp; done) | (go_simp; exact World.cell?_setCell_same' _ _ _ (by go_simp))) (by first | (go_simp; done) | (go_simp; exact World.cell?_setCell_same' _ _ _ (by go_simp))) (by first | (go_simp; done) | (go_simp; exact World.cell?_setCell_same' _ _ _ (by go_simp))), Row8.of (by first | (go_simp; done) | (go_simp; exact World.cell?_setCell_same' _ _ _ (by go_simp))) (by first | (go_simp; done) | (go_simp; exact World.cell?_setCell_same' _ _ _ (by go_simp))) (by first | (go_simp; done) | (go_simp; exact World.cell?_setCell_same' _ _ _ (by go_simp))) (by first | (go_simp; done) | (go_simp; exact World.cell?_setCell_same' _ _ _ (by go_simp))) (by first | (go_simp; done) | (go_simp; exact World.cell?_setCell_same' _ _ _ (by go_simp))) (by first | (go_simp; done) | (go_simp; exact World.cell?_setCell_same' _ _ _ (by go_simp))) (by first | (go_simp; done) | (go_simp; exact World.cell?_setCell_same' _ _ _ (by go_simp))) (by first | (go_simp; done) | (go_simp; exact World.cell?_setCell_same' _ _ _ (by go_simp))), by simp only [*]⟩
  case rest =>
    obtain ⟨b5, b6, rfl, rfl, R5, R6, HXc⟩ := hcut
    have l5 : b5 < wc.heap.size := World.block_lt_of_cell? wc ⟨b5, 0, none⟩ (R5 0 (by omega))
    have l6 : b6 < wc.heap.size := World.block_lt_of_cell? wc ⟨b6, 0, none⟩ (R6 0 (by omega))
    have HX5 : Hid (∀ i, Half (hx a0 a1 a2 a3 i)) := hx_half ha
    have HY5 : Hid (∀ i, Half (hx b0 b1 b2 b3 i)) := hx_half hb
    obtain ⟨X, HXX⟩ : ∃ f, Hid (hx a0 a1 a2 a3 = f) := ⟨_, rfl⟩
    obtain ⟨Y, HYY⟩ : ∃ f, Hid (hx b0 b1 b2 b3 = f) := ⟨_, rfl⟩
    rw [HXX.out] at R5 HX5
    rw [HYY.out] at R6 HY5
    have HR5 : Hid (∀ i, i < 8 → wc.cell? ⟨b5, i, none⟩ = some (.int .u64 (X i))) := R5
    have HR6 : Hid (∀ i, i < 8 → wc.cell? ⟨b6, i, none⟩ = some (.int .u64 (Y i))) := R6
    clear R5 R6 ha hb start hba hbb hl0 hl1
    go_wp2
    go_loopw [8] (fun i wr => ∃ (k : Nat), k ≤ 8 ∧ i = .int .i64 k ∧ ∃ P, Hid (OutP X Y k P) ∧ ∃ n, wr = (wc.alloc (.cells (f16 P) 77)).drewN n) (fun i _ => 8 - (intOf i).toNat)
    case atStart => exact ⟨0, Nat.zero_le _, rfl, fun _ => 0, OutP.zero X Y, 0, rfl⟩
    case round =>
      obtain ⟨i, hi, rfl, P0, HP0, n0, rfl⟩ := hrel
      by_cases hlt : i < 8
      · have hi0 : (0 : Int) ≤ (i : Int) := by omega
        have hi1 : (i : Int) < 8 := by omega
        have gx := HR5.out i hlt
        have HXi := HX5.out i
        go_wp2
        go_loopw [9, 10] (fun c j wr => ∃ (k : Nat), k ≤ 8 ∧ j = .int .i64 k ∧ ∃ P C, c = .int .u64 C ∧ Hid (InP X Y P0 i k P C) ∧ ∃ n, wr = (wc.alloc (.cells (f16 P) 77)).drewN n) (fun _ j _ => 8 - (intOf j).toNat)
        case atStart => exact ⟨0, Nat.zero_le _, rfl, P0, 0, rfl, InP.start HP0.out, n0, rfl⟩
        case round =>
          obtain ⟨j, hj, rfl, P, C, rfl, HI, n, rfl⟩ := hrel
          by_cases hjl : j < 8
          · have hj0 : (0 : Int) ≤ (j : Int) := by omega
            have hj1 : (j : Int) < 8 := by omega
            have gy := HR6.out j hjl
            have gp := f16_get P (i + j) (by omega)
            have hij0 : (0 : Int) ≤ (i : Int) + (j : Int) := by omega
            have hij1 : (i : Int) + (j : Int) < 16 := by omega
            have hadd := wrap_small8 i j hlt hjl
            have hij2 : ((i : Int) + (j : Int)).toNat = i + j := by omega
            have HS : Hid (∀ v, (f16 P).setIfInBounds (i + j) (.int .u64 v) = f16 (fun t => if t = i + j then v else P t)) := fun v => f16_set P (i + j) (by omega) v
            obtain ⟨t, ht⟩ : ∃ t, IntKind.u64.wrap (IntKind.u64.wrap (P (i + j) + IntKind.u64.wrap (X i * Y j)) + C) = t := ⟨_, rfl⟩
            have hw := word_ok (HI.out.1 (i + j)) HXi (HY5.out j) HI.out.2.1 ht
            have HN : Hid (InP X Y P0 i (j + 1) (fun s => if s = i + j then bits BinOp.and IntKind.u64 t 4294967295 else P s) (t / 4294967296)) := HI.out.step hlt hjl hw.1 hw.2.1 hw.2.2
            clear hw
            generalize X i = xi at *
            generalize Y j = yj at *
            generalize P (i + j) = pij at *
            go_wp2
            go_quiet (fail)
            go_wp2
            exact ⟨⟨j + 1, hjl, by go_num, _, _, rfl, HN, n + nq, by rw [HS.out]⟩, by simp [intOf]; omega⟩
          · obtain rfl : j = 8 := by omega
            have gp := f16_get P (i + 8) (by omega)
            have HS : Hid (∀ v, (f16 P).setIfInBounds (i + 8) (.int .u64 v) = f16 (fun t => if t = i + 8 then v else P t)) := fun v => f16_set P (i + 8) (by omega) v
            have HN : Hid (OutP X Y (i + 1) (fun t => if t = i + 8 then C else P t)) := OutP.step HP0.out HI.out hlt
            generalize P (i + 8) = pij at gp
            go_wp2
            exact ⟨⟨i + 1, hlt, by go_num, _, HN, n, by rw [HS.out C]⟩, by simp [intOf]; omega⟩
      · obtain rfl : i = 8 := by omega
        obtain ⟨p0, H0⟩ : ∃ p, Hid (P0 0 = p) := ⟨_, rfl⟩
        obtain ⟨p1, H1⟩ : ∃ p, Hid (P0 1 = p) := ⟨_, rfl⟩
        obtain ⟨p2, H2⟩ : ∃ p, Hid (P0 2 = p) := ⟨_, rfl⟩
        obtain ⟨p3, H3⟩ : ∃ p, Hid (P0 3 = p) := ⟨_, rfl⟩
        obtain ⟨p4, H4⟩ : ∃ p, Hid (P0 4 = p) := ⟨_, rfl⟩
        obtain ⟨p5, H5⟩ : ∃ p, Hid (P0 5 = p) := ⟨_, rfl⟩
        obtain ⟨p6, H6⟩ : ∃ p, Hid (P0 6 = p) := ⟨_, rfl⟩
        obtain ⟨p7, H7⟩ : ∃ p, Hid (P0 7 = p) := ⟨_, rfl⟩
        obtain ⟨p8, H8⟩ : ∃ p, Hid (P0 8 = p) := ⟨_, rfl⟩
        obtain ⟨p9, H9⟩ : ∃ p, Hid (P0 9 = p) := ⟨_, rfl⟩
        obtain ⟨p10, H10⟩ : ∃ p, Hid (P0 10 = p) := ⟨_, rfl⟩
        obtain ⟨p11, H11⟩ : ∃ p, Hid (P0 11 = p) := ⟨_, rfl⟩
        obtain ⟨p12, H12⟩ : ∃ p, Hid (P0 12 = p) := ⟨_, rfl⟩
        obtain ⟨p13, H13⟩ : ∃ p, Hid (P0 13 = p) := ⟨_, rfl⟩
        obtain ⟨p14, H14⟩ : ∃ p, Hid (P0 14 = p) := ⟨_, rfl⟩
        obtain ⟨p15, H15⟩ : ∃ p, Hid (P0 15 = p) := ⟨_, rfl⟩
        have hf : f16 P0 = #[.int .u64 p0, .int .u64 p1, .int .u64 p2, .int .u64 p3, .int .u64 p4, .int .u64 p5, .int .u64 p6, .int .u64 p7, .int .u64 p8, .int .u64 p9, .int .u64 p10, .int .u64 p11, .int .u64 p12, .int .u64 p13, .int .u64 p14, .int .u64 p15] := by
          unfold f16; rw [H0.out, H1.out, H2.out, H3.out, H4.out, H5.out, H6.out, H7.out, H8.out, H9.out, H10.out, H11.out, H12.out, H13.out, H14.out, H15.out]
        have HF : Hid (f16 P0 = #[.int .u64 p0, .int .u64 p1, .int .u64 p2, .int .u64 p3, .int .u64 p4, .int .u64 p5, .int .u64 p6, .int .u64 p7, .int .u64 p8, .int .u64 p9, .int .u64 p10, .int .u64 p11, .int .u64 p12, .int .u64 p13, .int .u64 p14, .int .u64 p15]) := hf
        rw [hf]
        clear hf
        have lz : bz < wc.heap.size := Nat.lt_of_lt_of_le HZl.out HXc.size
        have c0 : wc.cell? ⟨bz, 0, none⟩ = some (.int .u64 0) := (HXc.cells.1 bz 0 HZl.out).trans (HZ.out 0 (by decide)).1
        have f0 : wc.frozen? ⟨bz, 0, none⟩ = false := (HXc.cells.2 bz 0 HZl.out).trans (HZ.out 0 (by decide)).2
        have c1 : wc.cell? ⟨bz, 1, none⟩ = some (.int .u64 0) := (HXc.cells.1 bz 1 HZl.out).trans (HZ.out 1 (by decide)).1
        have f1 : wc.frozen? ⟨bz, 1, none⟩ = false := (HXc.cells.2 bz 1 HZl.out).trans (HZ.out 1 (by decide)).2
        have c2 : wc.cell? ⟨bz, 2, none⟩ = some (.int .u64 0) := (HXc.cells.1 bz 2 HZl.out).trans (HZ.out 2 (by decide)).1
        have f2 : wc.frozen? ⟨bz, 2, none⟩ = false := (HXc.cells.2 bz 2 HZl.out).trans (HZ.out 2 (by decide)).2
        have c3 : wc.cell? ⟨bz, 3, none⟩ = some (.int .u64 0) := (HXc.cells.1 bz 3 HZl.out).trans (HZ.out 3 (by decide)).1
        have f3 : wc.frozen? ⟨bz, 3, none⟩ = false := (HXc.cells.2 bz 3 HZl.out).trans (HZ.out 3 (by decide)).2
        have c4 : wc.cell? ⟨bz, 4, none⟩ = some (.int .u64 0) := (HXc.cells.1 bz 4 HZl.out).trans (HZ.out 4 (by decide)).1
        have f4 : wc.frozen? ⟨bz, 4, none⟩ = false := (HXc.cells.2 bz 4 HZl.out).trans (HZ.out 4 (by decide)).2
        have c5 : wc.cell? ⟨bz, 5, none⟩ = some (.int .u64 0) := (HXc.cells.1 bz 5 HZl.out).trans (HZ.out 5 (by decide)).1
        have f5 : wc.frozen? ⟨bz, 5, none⟩ = false := (HXc.cells.2 bz 5 HZl.out).trans (HZ.out 5 (by decide)).2
        have c6 : wc.cell? ⟨bz, 6, none⟩ = some (.int .u64 0) := (HXc.cells.1 bz 6 HZl.out).trans (HZ.out 6 (by decide)).1
        have f6 : wc.frozen? ⟨bz, 6, none⟩ = false := (HXc.cells.2 bz 6 HZl.out).trans (HZ.out 6 (by decide)).2
        have c7 : wc.cell? ⟨bz, 7, none⟩ = some (.int .u64 0) := (HXc.cells.1 bz 7 HZl.out).trans (HZ.out 7 (by decide)).1
        have f7 : wc.frozen? ⟨bz, 7, none⟩ = false := (HXc.cells.2 bz 7 HZl.out).trans (HZ.out 7 (by decide)).2
        have c8 : wc.cell? ⟨bz, 8, none⟩ = some (.int .u64 0) := (HXc.cells.1 bz 8 HZl.out).trans (HZ.out 8 (by decide)).1
        have f8 : wc.frozen? ⟨bz, 8, none⟩ = false := (HXc.cells.2 bz 8 HZl.out).trans (HZ.out 8 (by decide)).2
        have c9 : wc.cell? ⟨bz, 9, none⟩ = some (.int .u64 0) := (HXc.cells.1 bz 9 HZl.out).trans (HZ.out 9 (by decide)).1
        have f9 : wc.frozen? ⟨bz, 9, none⟩ = false := (HXc.cells.2 bz 9 HZl.out).trans (HZ.out 9 (by decide)).2
        have c10 : wc.cell? ⟨bz, 10, none⟩ = some (.int .u64 0) := (HXc.cells.1 bz 10 HZl.out).trans (HZ.out 10 (by decide)).1
        have f10 : wc.frozen? ⟨bz, 10, none⟩ = false := (HXc.cells.2 bz 10 HZl.out).trans (HZ.out 10 (by decide)).2
        have c11 : wc.cell? ⟨bz, 11, none⟩ = some (.int .u64 0) := (HXc.cells.1 bz 11 HZl.out).trans (HZ.out 11 (by decide)).1
        have f11 : wc.frozen? ⟨bz, 11, none⟩ = false := (HXc.cells.2 bz 11 HZl.out).trans (HZ.out 11 (by decide)).2
        have c12 : wc.cell? ⟨bz, 12, none⟩ = some (.int .u64 0) := (HXc.cells.1 bz 12 HZl.out).trans (HZ.out 12 (by decide)).1
        have f12 : wc.frozen? ⟨bz, 12, none⟩ = false := (HXc.cells.2 bz 12 HZl.out).trans (HZ.out 12 (by decide)).2
        have c13 : wc.cell? ⟨bz, 13, none⟩ = some (.int .u64 0) := (HXc.cells.1 bz 13 HZl.out).trans (HZ.out 13 (by decide)).1
        have f13 : wc.frozen? ⟨bz, 13, none⟩ = false := (HXc.cells.2 bz 13 HZl.out).trans (HZ.out 13 (by decide)).2
        have c14 : wc.cell? ⟨bz, 14, none⟩ = some (.int .u64 0) := (HXc.cells.1 bz 14 HZl.out).trans (HZ.out 14 (by decide)).1
        have f14 : wc.frozen? ⟨bz, 14, none⟩ = false := (HXc.cells.2 bz 14 HZl.out).trans (HZ.out 14 (by decide)).2
        have c15 : wc.cell? ⟨bz, 15, none⟩ = some (.int .u64 0) := (HXc.cells.1 bz 15 HZl.out).trans (HZ.out 15 (by decide)).1
        have f15 : wc.frozen? ⟨bz, 15, none⟩ = false := (HXc.cells.2 bz 15 HZl.out).trans (HZ.out 15 (by decide)).2
        have HEc : Hid (Ext w wc) := HE0.out.trans HXc
        clear HXc HE0 HZ HZl l5 l6
        go_wp2
        refine bodyPost_ret (v := .agg #[.int .u64 p0, .int .u64 p1, .int .u64 p2, .int .u64 p3, .int .u64 p4, .int .u64 p5, .int .u64 p6, .int .u64 p7, .int .u64 p8, .int .u64 p9, .int .u64 p10, .int .u64 p11, .int .u64 p12, .int .u64 p13, .int .u64 p14, .int .u64 p15]) (by simp [results, Tryd.results56, go_sem, lz, c0, c1, c2, c3, c4, c5, c6, c7, c8, c9, c10, c11, c12, c13, c14, c15]) rfl ⟨P0, by rw [HF.out], by rw [HXX.out, HYY.out]; exact HP0.out, ?_⟩
        exact (Ext.alloc (Ext.st HBz (Ext.st HBz (Ext.st HBz (Ext.st HBz (Ext.st HBz (Ext.st HBz (Ext.st HBz (Ext.st HBz (Ext.st HBz (Ext.st HBz (Ext.st HBz (Ext.st HBz (Ext.st HBz (Ext.st HBz (Ext.st HBz (Ext.st HBz HEc.out)))))))))))))))) _).drewN _
end Go.Proofs.YtnaiccfdbapdpaaDoor
