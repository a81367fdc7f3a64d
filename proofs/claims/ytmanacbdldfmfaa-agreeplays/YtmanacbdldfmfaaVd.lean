/-
 (*votes.Votes).Ahead, called.
-/
import Derived.Test.YtmanacbdldfmfaaVc
namespace Go.Proofs.Ytmanacbdldfmfaa
set_option maxRecDepth 10000
open Go.RowKit
set_option maxRecDepth 10000 in
set_option maxHeartbeats 4000000 in
theorem vahead_any {b bm : Nat} {sl : Int → Int → Value} {N T : Nat} {L : List Vt} {q : Int} (hi : InvV N L) (hN : N ≤ 7) (w : World) (h : VB w b bm sl N T L) :
  Calls Try.prog 57 #[.pointer (some ⟨b, 0, none⟩), .int .i64 q] w fun e w' => e = .returned (.int .i64 (aheadV N T L q)) ∧ Ext w w' := by
 have HC : Hid (∀ wx, Ext w wx → wx.cell? ⟨b, 1, none⟩ = some (.int .i64 (T : Int)) ∧ b < wx.heap.size) := fun wx hx => by
  obtain ⟨_, q1, _, q3⟩ := vbx (h.ext hx)
  exact ⟨q1, q3⟩
 have HNd : Hid (∀ (i : Nat) wx, i ≤ 63 → Ext w wx → Calls Try.prog 63 #[.pointer (some ⟨b, 0, none⟩), .int .i64 (i : Int)] wx fun e w' => e = .returned (.int .i64 (nds L (i : Int) N : Int)) ∧ Ext wx w') := fun i wx hi6 hx => vnodes_any hi hN (WalkArith.wf_i64 (by omega)) wx (h.ext hx)
 obtain ⟨f, Hf⟩ : ∃ f : Nat → Nat, Hid (f = fun r : Nat => nds L (r : Int) N) := ⟨_, rfl⟩
 have HA : Hid (aheadV N T L q = ahd f T q 64) := by show _ = _; rw [Hf.out]; rfl
 rw [HA.out]
 have HE0 : Hid (Ext w w) := Ext.refl w
 have HNf : Hid (∀ (i : Nat) wx, i ≤ 63 → Ext w wx → Calls Try.prog 63 #[.pointer (some ⟨b, 0, none⟩), .int .i64 (i : Int)] wx fun e w' => e = .returned (.int .i64 (f i : Int)) ∧ Ext wx w') := fun i wx h6 hx => by rw [Hf.out]; exact HNd.out i wx h6 hx
 clear h hi hN HNd
 go_enter Try.func57, Try.ntmps57
 go_wp2_with fail
 go_loopw [5] (fun u5 wr => ∃ (i : Nat) (z : Int), i ≤ 64 ∧ u5 = .int .i64 z ∧ Hid (z + 1 = (i : Int)) ∧ Hid (Ext w wr) ∧ Hid (ahd f T q 64 = ahd f T q i)) (fun u5 _ => (intOf u5 + 1).toNat)
 case atStart => exact ⟨64, 63, Nat.le_refl _, rfl, rfl, HE0, rfl⟩
 case round =>
  obtain ⟨i, z, hi6, rfl, Hz, HE, HR⟩ := hrel
  clear HE0
  cases i with
  | zero =>
   have hz : z = -1 := by have := Hz.out; omega
   have hz2 : decide ((0 : Int) ≤ z) = false := decide_eq_false (by omega)
   have HR2 : Hid (ahd f T q 64 = -1) := HR.out
   clear hz HR
   go_wp2
   go_ret
   exact ⟨by rw [HR2.out]; rfl, HE.out⟩
  | succ r =>
   have hzr : z = (r : Int) := by have := Hz.out; omega
   subst hzr
   have hz0 : (0 : Int) ≤ (r : Int) := by omega
   by_cases hq : q < (r : Int)
   ·have qw : IntKind.i64.wrap ((r : Int) - 1) = (r : Int) - 1 := by rw [IntKind.wrap_i64]; omega
    have HM : Hid (intOf (.int .i64 ((r : Int) - 1)) + 1 = (r : Int)) := by show (r : Int) - 1 + 1 = _; omega
    have HM2 : Hid (intOf (.int .i64 (r : Int)) + 1 = (r : Int) + 1) := rfl
    by_cases ht : (T : Int) < (f r : Int)
    ·have HR2 : Hid (ahd f T q 64 = (r : Int)) := by
      show _ = _
      rw [HR.out]
      show (if q < (r : Int) then _ else _) = _
      rw [if_pos hq, if_pos (by omega)]
     clear HR
     have HS : Ext w wr.drew := HE.out.drew
     go_wp2_with fail
     refine wp_region_noPanic ?_
     refine wp_region_held (S := Ext w) (by kernel_rfl) ?_
     rw [show ({ wr with drawn := wr.drawn + 1 } : World) = wr.drew from rfl]
     refine takeH (i := 0) (v := ?va0) ?hya0 HS ?resta0
     case hya0 => (intro wx hSx; go_simp; try with_reducible rfl)
     try simp only [sx]
     refine takeH (i := 1) (v := ?va1) ?hya1 HS ?resta1
     case hya1 => (intro wx hSx; go_simp; try with_reducible rfl)
     try simp only [sx]
     refine takeH (i := 3) (v := ?va3) ?hya3 HS ?resta3
     case hya3 => (intro wx hSx; go_simp; try with_reducible rfl)
     try simp only [sx]
     refine takeH (i := 4) (v := ?va4) ?hya4 HS ?resta4
     case hya4 => (intro wx hSx; go_simp; try with_reducible rfl)
     try simp only [sx]
     refine takeH (i := 5) (v := ?va5) ?hya5 HS ?resta5
     case hya5 => (intro wx hSx; go_simp; try with_reducible rfl)
     try simp only [sx]
     refine takeH (i := 6) (v := ?va6) ?hya6 HS ?resta6
     case hya6 => (intro wx hSx; obtain ⟨q1, q3⟩ := HC.out _ hSx; go_simp; try with_reducible rfl)
     try simp only [sx]
     refine held_one (i := 2) (by kernel_rfl) rfl rfl (fun K hK => ?_)
     go_simp
     refine (HNf.out r _ (by omega) HS).mono ?_
     rintro e x1 ⟨rfl, HX⟩
     have HSX := HS.trans HX
     clear HX
     try go_simp
     refine hK.out _ _ ⟨HSX, ?_⟩
     clear hK K
     try simp only [sx]
     refine takeH (i := 7) (v := ?va7) ?hya7 HSX ?resta7
     case hya7 => (intro wx hSx; go_simp; try with_reducible rfl)
     try simp only [sx]
     refine wpAnyH_done (by kernel_rfl) ?_ _
     refine NoPanic.normal ?_
     ·go_wp2
      go_ret
      exact ⟨by rw [HR2.out]; rfl, HSX⟩
    ·have HR2 : Hid (ahd f T q 64 = ahd f T q r) := by
      show _ = _
      rw [HR.out]
      show (if q < (r : Int) then _ else _) = _
      rw [if_pos hq, if_neg (by omega)]
     clear HR
     have HS : Ext w wr.drew := HE.out.drew
     go_wp2_with fail
     refine wp_region_noPanic ?_
     refine wp_region_held (S := Ext w) (by kernel_rfl) ?_
     rw [show ({ wr with drawn := wr.drawn + 1 } : World) = wr.drew from rfl]
     refine takeH (i := 0) (v := ?vb0) ?hyb0 HS ?restb0
     case hyb0 => (intro wx hSx; go_simp; try with_reducible rfl)
     try simp only [sx]
     refine takeH (i := 1) (v := ?vb1) ?hyb1 HS ?restb1
     case hyb1 => (intro wx hSx; go_simp; try with_reducible rfl)
     try simp only [sx]
     refine takeH (i := 3) (v := ?vb3) ?hyb3 HS ?restb3
     case hyb3 => (intro wx hSx; go_simp; try with_reducible rfl)
     try simp only [sx]
     refine takeH (i := 4) (v := ?vb4) ?hyb4 HS ?restb4
     case hyb4 => (intro wx hSx; go_simp; try with_reducible rfl)
     try simp only [sx]
     refine takeH (i := 5) (v := ?vb5) ?hyb5 HS ?restb5
     case hyb5 => (intro wx hSx; go_simp; try with_reducible rfl)
     try simp only [sx]
     refine takeH (i := 6) (v := ?vb6) ?hyb6 HS ?restb6
     case hyb6 => (intro wx hSx; obtain ⟨q1, q3⟩ := HC.out _ hSx; go_simp; try with_reducible rfl)
     try simp only [sx]
     refine held_one (i := 2) (by kernel_rfl) rfl rfl (fun K hK => ?_)
     go_simp
     refine (HNf.out r _ (by omega) HS).mono ?_
     rintro e x1 ⟨rfl, HX⟩
     have HSX := HS.trans HX
     clear HX
     try go_simp
     refine hK.out _ _ ⟨HSX, ?_⟩
     clear hK K
     try simp only [sx]
     refine takeH (i := 7) (v := ?vb7) ?hyb7 HSX ?restb7
     case hyb7 => (intro wx hSx; go_simp; try with_reducible rfl)
     try simp only [sx]
     refine wpAnyH_done (by kernel_rfl) ?_ _
     refine NoPanic.normal ?_
     ·have Hi6 : Hid (r + 1 ≤ 64) := hi6
      clear hi6
      go_wp2
      go_roundw
      case rel => exact ⟨r, (r : Int) - 1, by have := Hi6.out; omega, rfl, by show (r : Int) - 1 + 1 = _; omega, HSX, HR2⟩
      case measure => rw [HM.out, HM2.out]; omega
   ·have hq2 : decide (q < (r : Int)) = false := decide_eq_false hq
    have HR2 : Hid (ahd f T q 64 = -1) := by
     show _ = _
     rw [HR.out]
     exact if_neg hq
    clear hq HR
    go_wp2
    go_ret
    exact ⟨by rw [HR2.out]; rfl, HE.out⟩
end Go.Proofs.Ytmanacbdldfmfaa
