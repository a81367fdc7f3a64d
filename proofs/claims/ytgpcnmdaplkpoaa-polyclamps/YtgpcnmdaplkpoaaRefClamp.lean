/-
  The document's Clamp (sandglassref10.Clamp), called; nothing old is turned.
-/
import Derived.Test.YtgpcnmdaplkpoaaRefNumber
namespace Go.Proofs.Ytgpcnmdaplkpoaa
open Go.RowKit
/-- Byte j with some bits 0. -/
def clB (j v : Nat) : Nat := if j = 3 ∨ j = 7 ∨ j = 11 ∨ j = 15 then v % 16 else if j = 4 ∨ j = 8 ∨ j = 12 then v / 4 * 4 else v
/-- The first t bytes are clamped. -/
def clP (T : Nat → Nat) (t j : Nat) : Nat := if j < t then clB j (T j) else T j
theorem clP_at (T : Nat → Nat) (t : Nat) : clP T t t = T t := if_neg (by omega)
theorem clP_step (T : Nat → Nat) (t : Nat) : put (clP T t) t (clB t (T t)) = clP T (t + 1) := by
  funext j
  unfold put clP
  by_cases e : j = t
  · subst e; simp
  · rw [if_neg e]
    by_cases h : j < t
    · rw [if_pos h, if_pos (by omega)]
    · rw [if_neg h, if_neg (by omega)]
theorem clP_same {T : Nat → Nat} {t : Nat} (h : clB t (T t) = T t) : clP T t = clP T (t + 1) := by
  rw [← clP_step, h]
  funext j
  unfold put
  split
  · rename_i e; subst e; rw [clP_at]
  · rfl
theorem and15n : ∀ v, v < 256 → v &&& 15 = v % 16 := fun v _ => Nat.and_two_pow_sub_one_eq_mod v 4
set_option maxRecDepth 20000 in
theorem and252n : ∀ v, v < 256 → v &&& 252 = v / 4 * 4 := by decide
theorem clB_four {i : Nat} (h : i = 3 ∨ i = 7 ∨ i = 11 ∨ i = 15) (v : Nat) (hv : v < 256) : bits BinOp.and IntKind.u8 (v : Int) 15 = ((clB i v : Nat) : Int) := by
  have e := u8_and_nat v 15 hv (by decide)
  rw [and15n v hv] at e
  unfold clB
  rw [if_pos h]
  exact e
theorem clB_three {i : Nat} (h : i = 4 ∨ i = 8 ∨ i = 12) (v : Nat) (hv : v < 256) : bits BinOp.and IntKind.u8 (v : Int) 252 = ((clB i v : Nat) : Int) := by
  have e := u8_and_nat v 252 hv (by decide)
  rw [and252n v hv] at e
  unfold clB
  rw [if_neg (by omega), if_pos h]
  exact e
theorem clB_else {i : Nat} (h : ¬ (i = 3 ∨ i = 7 ∨ i = 11 ∨ i = 15)) (k : ¬ (i = 4 ∨ i = 8 ∨ i = 12)) (v : Nat) : clB i v = v := by
  unfold clB
  rw [if_neg h, if_neg k]
/-- The text that is clamped. -/
def clS (s : ByteArray) : ByteArray := mkS (clP (sb s) 16) 16
set_option maxHeartbeats 400000 in
theorem rclamp_bad (s : ByteArray) (h : s.size ≠ 16) (w : World) :
    Calls Try.prog 11 #[.string s] w fun e w' => e = .returned (.tuple #[.string ⟨#[]⟩, .int .i64 2]) ∧ Ext w w' := by
  have h1 : ¬ (s.size : Int) = 16 := by omega
  go_enter Try.func11, Try.ntmps11
  go_wp2
  refine bodyPost_ret (v := .tuple #[.string ⟨#[]⟩, .int .i64 2]) (by simp [results, Try.results11, go_sem]) rfl ⟨rfl, Ext.refl _⟩
set_option maxHeartbeats 4000000 in
theorem rclamp_any (s : ByteArray) (hs : s.size = 16) (w : World) :
    Calls Try.prog 11 #[.string s] w fun e w' => e = .returned (.tuple #[.string (clS s), .int .i64 0]) ∧ Ext w w' := by
  have h1 : (s.size : Int) = 16 := by omega
  have hsm : s.size ≤ maxLen := by unfold maxLen; omega
  have hcv := Lib.run_convert_string_bytes w 9 35 5 s Try.underlying9 Try.underlying35 Try.underlying5
  have HX0 : Hid (Ext w (Lib.bytesWorld w 5 s)) := bytes_ext _ _ _
  have HO0 := bytes_own w 5 s hsm
  obtain ⟨X, hX⟩ : ∃ X, Lib.bytesWorld w 5 s = X := ⟨_, rfl⟩
  obtain ⟨c0, hc0⟩ : ∃ c0, grownCap w s.size 0 5 = c0 := ⟨_, rfl⟩
  rw [hX] at hcv HX0 HO0
  rw [hc0] at hcv HO0
  rw [hs] at hcv HO0
  obtain ⟨g', cap', e, hb, hg, hcn, hm, hc, hf⟩ := HO0
  injection e with e0 _ e2
  injection e0 with e0
  injection e0 with e0 _ _
  have HT0 : Hid (TabN X w.heap.size .u8 16 (clP (sb s) 0)) := by
    show TabN _ _ _ _ _
    rw [← e0] at hg hc hf
    refine ⟨hg, fun k hk2 => ⟨?_, (hf k (by omega)).2⟩⟩
    rw [show clP (sb s) 0 k = sb s k from if_neg (by omega)]
    exact hc k hk2
  have HG : SizeLe w w.heap.size := Nat.le_refl _
  clear hX hc0 e0 e2 hb hg hcn hm hc hf
  generalize hgg : w.heap.size = g at *
  clear hgg
  go_enter Try.func11, Try.ntmps11
  go_wp2
  go_loopw [5] (fun u5 wr => ∃ i : Nat, i ≤ 16 ∧ u5 = .int .i64 i ∧ TabN wr g .u8 16 (clP (sb s) i) ∧ Hid (Ext w wr)) (fun u5 _ => 16 - (intOf u5).toNat)
  case atStart => exact ⟨0, by omega, rfl, HT0.out, HX0⟩
  case round =>
    obtain ⟨i, hi16, rfl, HT, HE⟩ := hrel
    clear HT0 HX0 hcv
    by_cases hlt : i < 16
    · have hl1 : (i : Int) < 16 := by omega
      have hi0 : (0 : Int) ≤ (i : Int) := by omega
      obtain ⟨gp, gfz⟩ := HT.2 i hlt
      rw [clP_at] at gp
      have hb := sb_lt s i
      by_cases h4 : i = 3 ∨ i = 7 ∨ i = 11 ∨ i = 15
      · have hbit := clB_four h4 (sb s i) hb
        have HST : Hid (TabN (wr.setCell ⟨g, i, none⟩ (.int .u8 ((clB i (sb s i) : Nat) : Int))) g .u8 16 (clP (sb s) (i + 1))) := by
          have h := HT.set i (clB i (sb s i))
          rw [clP_step] at h
          exact h
        clear HT
        generalize clB i (sb s i) = r at HST hbit
        generalize sb s i = bv at gp hbit
        rcases h4 with rfl | rfl | rfl | rfl
        all_goals
          go_wp2
          go_roundw
          case rel => exact ⟨_, by decide, rfl, HST.out, Ext.st HG HE.out⟩
          case measure => simp [intOf]
      · by_cases h3 : i = 4 ∨ i = 8 ∨ i = 12
        · have hbit := clB_three h3 (sb s i) hb
          have HST : Hid (TabN (wr.setCell ⟨g, i, none⟩ (.int .u8 ((clB i (sb s i) : Nat) : Int))) g .u8 16 (clP (sb s) (i + 1))) := by
            have h := HT.set i (clB i (sb s i))
            rw [clP_step] at h
            exact h
          clear HT
          generalize clB i (sb s i) = r at HST hbit
          generalize sb s i = bv at gp hbit
          clear h4
          rcases h3 with rfl | rfl | rfl
          all_goals
            go_wp2
            go_roundw
            case rel => exact ⟨_, by decide, rfl, HST.out, Ext.st HG HE.out⟩
            case measure => simp [intOf]
        · have HT2 : Hid (TabN wr g .u8 16 (clP (sb s) (i + 1))) := by
            show TabN _ _ _ _ _
            rw [← clP_same (clB_else h4 h3 (sb s i))]
            exact HT
          have q1 : ¬ (i : Int) = 3 := by omega
          have q2 : ¬ (i : Int) = 7 := by omega
          have q3 : ¬ (i : Int) = 11 := by omega
          have q4 : ¬ (i : Int) = 15 := by omega
          have q5 : ¬ (i : Int) = 4 := by omega
          have q6 : ¬ (i : Int) = 8 := by omega
          have q7 : ¬ (i : Int) = 12 := by omega
          clear HT h4 h3 gp gfz
          go_wp2
          go_roundw
          case rel => exact ⟨i + 1, hlt, by go_num, HT2.out, HE⟩
          case measure => simp [intOf]; omega
    · have hiE : Hid (i = 16) := (by omega : i = 16)
      have hnl : ¬ (i : Int) < 16 := by omega
      have hcs := run_lst_string Try.prog 5 35 9 Try.underlying35 Try.underlying5 Try.underlying9 wr (clP (sb s) i) 16 (.slice (some ⟨g, 0, none⟩) 16 c0) (HT.slice (by unfold maxLen; omega)) (by decide)
      have HQ : Hid (mkS (clP (sb s) i) 16 = clS s) := by
        show _ = _
        rw [hiE.out]
        rfl
      rw [HQ.out] at hcs
      obtain ⟨SS, HSS⟩ : ∃ SS, Hid (clS s = SS) := ⟨_, rfl⟩
      rw [HSS.out] at hcs
      clear HT HQ
      go_wp2
      refine bodyPost_ret (v := .tuple #[.string SS, .int .i64 0]) (by simp [results, Try.results11, go_sem]) rfl ⟨by rw [HSS.out], HE.out⟩
end Go.Proofs.Ytgpcnmdaplkpoaa
