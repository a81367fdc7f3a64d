/-
  sandglassref07.above, called: whether a number of some words is greater than x times 2 to the power of 32 by n; nothing old is turned.
-/
import Derived.Test.YtfhglfldmboanaaDoorTabn
import Derived.Test.YtfhglfldmboanaaDoorAboveMath
namespace Go.Proofs.YtfhglfldmboanaaDoor
open Go.RowKit
set_option maxHeartbeats 1000000 in
theorem above_any (P : Nat → Nat) (x n m : Nat) (hP : ∀ k, P k < BW) (hx : x < BW) (hn : n < m) (hm : m ≤ 8) (v : Value) (w : World) (sv : SlIs w v (lst .u64 P m)) :
    Calls Tryd.prog 35 #[v, .int .u64 (x : Int), .int .i64 (n : Int)] w fun e w' => e = .returned (.bool (decide (x * BW ^ n < nvf P m))) ∧ Ext w w' := by
  obtain ⟨b, o, c, rfl, hb, H0⟩ := sv.form (by omega)
  have H : Hid (∀ j, j < m → w.cell? ⟨b, o + j, none⟩ = some (.int .u64 (P j : Int))) := H0
  clear sv H0
  have hm1 : IntKind.i64.wrap ((m : Int) - 1) = (m : Int) - 1 := by rw [IntKind.wrap_i64]; omega
  go_enter Tryd.func35, Tryd.ntmps35
  go_wp2
  go_loopw [7] (fun u6 wr => wr = w ∧ ∃ (i : Nat), n < i ∧ i ≤ m ∧ u6 = .int .i64 ((i : Int) - 1) ∧ Hid (∀ k, i ≤ k → k < m → P k = 0)) (fun u6 _ => (intOf u6).toNat)
  case atStart => exact ⟨rfl, m, hn, by omega, rfl, fun k h1 h2 => by omega⟩
  case round =>
    obtain ⟨rfl, i, hi1, hi2, rfl, HZ⟩ := hrel
    obtain ⟨i, rfl⟩ : ∃ t, i = t + 1 := ⟨i - 1, by omega⟩
    rw [show (((i + 1 : Nat) : Int) - 1) = (i : Int) from by omega]
    by_cases hlt : n < i
    · have h1 : (n : Int) < (i : Int) := by omega
      have h2 : (i : Int) < (m : Int) := by omega
      have h3 : (0 : Int) ≤ (i : Int) := by omega
      have hc := H.out i (by omega)
      have hsub : IntKind.i64.wrap ((i : Int) - 1) = (i : Int) - 1 := by rw [IntKind.wrap_i64]; omega
      by_cases h0 : P i = 0
      · have HZ2 : Hid (∀ k, i ≤ k → k < m → P k = 0) := fun k g1 g2 => by
          by_cases e : k = i
          · subst e; exact h0
          · exact HZ.out k (by omega) g2
        rw [h0] at hc
        go_wp2
        go_roundw
        case rel => exact ⟨trivial, i, hlt, by omega, rfl, HZ2⟩
        case measure => simp [intOf]; omega
      · have h4 : (0 : Int) < (P i : Int) := by omega
        have HR : Hid (decide (x * BW ^ n < nvf P m) = true) := decide_eq_true (above_high hx hlt (by omega) (by omega))
        go_wp2
        go_ret
        exact ⟨by rw [HR.out]; rfl, Ext.refl _⟩
    · obtain rfl : i = n := by omega
      have hin : ¬ (i : Int) < (i : Int) := by omega
      have h2 : (i : Int) < (m : Int) := by omega
      have h3 : (0 : Int) ≤ (i : Int) := by omega
      have hc := H.out i (by omega)
      by_cases he : P i = x
      · rw [he] at hc
        have HE : Hid (P i = x) := he
        clear he
        go_wp2
        go_loopw [8] (fun u7 wq => wq = wr ∧ ∃ (j : Nat), j ≤ i ∧ u7 = .int .i64 (j : Int) ∧ Hid (∀ k, k < j → P k = 0)) (fun u7 _ => i - (intOf u7).toNat)
        case atStart => exact ⟨rfl, 0, by omega, rfl, fun k hk => by omega⟩
        case round =>
          obtain ⟨rfl, j, hj, rfl, HL⟩ := hrel
          by_cases hjl : j < i
          · have g1 : (j : Int) < (i : Int) := by omega
            have g2 : (j : Int) < (m : Int) := by omega
            have g3 : (0 : Int) ≤ (j : Int) := by omega
            have hd := H.out j (by omega)
            by_cases h0 : P j = 0
            · have HL2 : Hid (∀ k, k < j + 1 → P k = 0) := fun k g => by
                by_cases e : k = j
                · subst e; exact h0
                · exact HL.out k (by omega)
              rw [h0] at hd
              go_wp2
              go_roundw
              case rel => exact ⟨trivial, j + 1, hjl, by go_num, HL2⟩
              case measure => simp [intOf]; omega
            · have h4 : (0 : Int) < (P j : Int) := by omega
              have HR : Hid (decide (x * BW ^ i < nvf P m) = true) := decide_eq_true (above_low (by omega) HE.out hjl (by omega))
              go_wp2
              go_ret
              exact ⟨by rw [HR.out]; rfl, Ext.refl _⟩
          · obtain rfl : j = i := by omega
            have hjn : ¬ (j : Int) < (j : Int) := by omega
            have HR : Hid (decide (x * BW ^ j < nvf P m) = false) := decide_eq_false (above_not (by omega) HZ.out HE.out HL.out)
            go_wp2
            go_ret
            exact ⟨by rw [HR.out]; rfl, Ext.refl _⟩
      · have hne : ((P i : Int) != (x : Int)) = true := by simp; omega
        have HR : Hid (decide (x < P i) = decide (x * BW ^ i < nvf P m)) := by
          show _ = _
          rw [decide_eq_decide, ← above_mid hP (by omega) HZ.out he]
        go_wp2
        go_ret
        exact ⟨by rw [← HR.out]; rfl, Ext.refl _⟩
end Go.Proofs.YtfhglfldmboanaaDoor
