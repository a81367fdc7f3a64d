/-
  poly.Clamp, called.
-/
import Derived.Test.YtgpcnmdaplkpoaaPe
import Derived.Test.YtgpcnmdaplkpoaaRefClamp
namespace Go.Proofs.Ytgpcnmdaplkpoaa
open Go.RowKit
/-- The bytes behind the first loop up to t. -/
def cA (T : Nat → Nat) (t j : Nat) : Nat := if j % 4 = 3 ∧ j < t then clB j (T j) else T j
/-- The bytes behind the second loop up to t. -/
def cB (T : Nat → Nat) (t j : Nat) : Nat := if j % 4 = 3 ∨ j % 4 = 0 ∧ j ≠ 0 ∧ j < t then clB j (T j) else T j
theorem cA_step (T : Nat → Nat) (i : Nat) (h : i % 4 = 3) : put (cA T i) i (clB i (T i)) = cA T (i + 4) := by
  funext j
  unfold put cA
  by_cases e : j = i
  · subst e; rw [if_pos rfl, if_pos ⟨h, by omega⟩]
  · rw [if_neg e]
    by_cases h2 : j % 4 = 3 ∧ j < i
    · rw [if_pos h2, if_pos ⟨h2.1, by omega⟩]
    · rw [if_neg h2, if_neg (by omega)]
theorem cB_step (T : Nat → Nat) (i : Nat) (h : i % 4 = 0) (h0 : i ≠ 0) : put (cB T i) i (clB i (T i)) = cB T (i + 4) := by
  funext j
  unfold put cB
  by_cases e : j = i
  · subst e; rw [if_pos rfl, if_pos (Or.inr ⟨h, h0, by omega⟩)]
  · rw [if_neg e]
    by_cases h2 : j % 4 = 3 ∨ j % 4 = 0 ∧ j ≠ 0 ∧ j < i
    · rw [if_pos h2, if_pos (by omega)]
    · rw [if_neg h2, if_neg (by omega)]
theorem cA_at (T : Nat → Nat) (i : Nat) : cA T i i = T i := if_neg (by omega)
theorem cB_at (T : Nat → Nat) (i : Nat) (h : i % 4 = 0) : cB T i i = T i := if_neg (by omega)
theorem cB_end (T : Nat → Nat) (j : Nat) (h : j < 16) : cB T 16 j = clP T 16 j := by
  unfold cB clP
  rw [if_pos h]
  split
  · rfl
  · exact (clB_else (by omega) (by omega) _).symm
theorem pclamp_bad (s : ByteArray) (h : s.size ≠ 16) (w : World) :
    Calls Try.prog 10 #[.string s] w fun e w' => e = .returned (.tuple #[.string ⟨#[]⟩, .int .i64 2]) ∧ Ext w w' := by
  have h1 : ¬ (s.size : Int) = 16 := by omega
  go_enter Try.func10, Try.ntmps10
  go_wp2
  refine bodyPost_ret (v := .tuple #[.string ⟨#[]⟩, .int .i64 2]) (by simp [results, Try.results10, go_sem]) rfl ⟨rfl, Ext.refl _⟩
/-- What Clamp holds. -/
def CL (w wr : World) (p : Nat) (F : Nat → Nat) : Prop := RowH wr p 32 .u8 16 F ∧ Ext w wr ∧ w.heap.size ≤ p
theorem CL.set {w wr : World} {p : Nat} {F : Nat → Nat} (h : CL w wr p F) (t v : Nat) : CL w (wr.setCell ⟨p, t, none⟩ (.int .u8 (v : Int))) p (put F t v) :=
  ⟨h.1.set t v, Ext.st h.2.2 h.2.1, h.2.2⟩
theorem CL.congr {w wr : World} {p : Nat} {F G : Nat → Nat} (h : CL w wr p F) (e : ∀ j, j < 16 → F j = G j) : CL w wr p G :=
  ⟨by have := h.1; unfold RowH at this ⊢; rw [lst_congr e] at this; exact this, h.2⟩
set_option maxHeartbeats 1000000 in
theorem pclamp_any (s : ByteArray) (hs : s.size = 16) (w : World) :
    Calls Try.prog 10 #[.string s] w fun e w' => e = .returned (.tuple #[.string (clS s), .int .i64 0]) ∧ Ext w w' := by
  have h1 : (s.size : Int) = 16 := by omega
  have HR0 := RowH.new w .u8 16 32
  have hcp := run_copy_part (P := Try.prog) (w.alloc (.cells #[.int .u8 0, .int .u8 0, .int .u8 0, .int .u8 0, .int .u8 0, .int .u8 0, .int .u8 0, .int .u8 0, .int .u8 0, .int .u8 0, .int .u8 0, .int .u8 0, .int .u8 0, .int .u8 0, .int .u8 0, .int .u8 0] 32)) 35 9 3 5 32 w.heap.size 16 16 16 s (fun _ => 0) (by decide) Try.underlying35 Try.size5 HR0
  have H0 : Hid (CL w ((w.alloc (.cells #[.int .u8 0, .int .u8 0, .int .u8 0, .int .u8 0, .int .u8 0, .int .u8 0, .int .u8 0, .int .u8 0, .int .u8 0, .int .u8 0, .int .u8 0, .int .u8 0, .int .u8 0, .int .u8 0, .int .u8 0, .int .u8 0] 32)).setRow w.heap.size (lst .u8 (fun j => if j < min s.size 16 then sb s j else (fun _ => 0) j) 16).toArray) w.heap.size (cA (sb s) 3)) :=
    CL.congr ⟨HR0.row _, ((Ext.refl w).alloc _).row (Nat.le_refl _) _, Nat.le_refl _⟩ (fun j hj => by show (if _ then _ else _) = _; rw [if_pos (by omega)]; exact (if_neg (by omega)).symm)
  have HS : Hid (clS s = mkS (clP (sb s) 16) 16) := rfl
  have HL : Hid (∀ j, sb s j < 256) := sb_lt s
  obtain ⟨sT, hT⟩ : ∃ T, Hid (sb s = T) := ⟨_, rfl⟩
  rw [hT.out] at hcp H0 HS HL
  generalize clS s = R at *
  clear HR0
  generalize (w.alloc (.cells #[.int .u8 0, .int .u8 0, .int .u8 0, .int .u8 0, .int .u8 0, .int .u8 0, .int .u8 0, .int .u8 0, .int .u8 0, .int .u8 0, .int .u8 0, .int .u8 0, .int .u8 0, .int .u8 0, .int .u8 0, .int .u8 0] 32)).setRow w.heap.size (lst .u8 (fun j => if j < min s.size 16 then sT j else (fun _ => 0) j) 16).toArray = W0 at *
  go_enter Try.func10, Try.ntmps10
  go_wp2_with fail
  clear hcp
  generalize w.heap.size = p at *
  go_loopw [5] (fun u5 wr => ∃ (i : Nat), i ≤ 19 ∧ i % 4 = 3 ∧ u5 = .int .i64 i ∧ Hid (CL w wr p (cA sT i))) (fun u5 _ => 20 - (intOf u5).toNat)
  case atStart => exact ⟨3, by omega, by omega, rfl, H0⟩
  case round =>
    clear H0
    obtain ⟨i, hi19, hi4, rfl, HC⟩ := hrel
    by_cases hil : i < 16
    · have hi1 : (i : Int) < 16 := by omega
      have hi0 : (0 : Int) ≤ (i : Int) := by omega
      obtain ⟨c1, f1⟩ := HC.out.1.tab.2 i hil
      rw [cA_at] at c1
      have ha := clB_four (i := i) (by omega) (sT i) (HL.out i)
      have HC1 : Hid (CL w (wr.setCell ⟨p, i, none⟩ (.int .u8 ((clB i (sT i) : Nat) : Int))) p (cA sT (i + 4))) := by
        have h := HC.out.set i (clB i (sT i))
        rw [cA_step sT i hi4] at h
        exact h
      clear HC
      generalize clB i (sT i) = v at *
      generalize sT i = x at *
      have HI4 : Hid (i % 4 = 3) := hi4
      clear hi4
      go_wp2_with fail
      go_roundw
      case rel => exact ⟨i + 4, by omega, by have := HI4.out; omega, by go_num, HC1⟩
      case measure => simp [intOf]; omega
    · have hni : ¬ (i : Int) < 16 := by omega
      have HC1 : Hid (CL w wr p (cB sT 4)) := HC.out.congr fun j hj => by
        unfold cA cB
        by_cases h : j % 4 = 3
        · rw [if_pos ⟨h, by omega⟩, if_pos (Or.inl h)]
        · rw [if_neg (by omega), if_neg (by omega)]
      clear HC
      go_wp2_with fail
      go_loopw [6] (fun u6 wr => ∃ (i : Nat), i ≤ 16 ∧ i % 4 = 0 ∧ i ≠ 0 ∧ u6 = .int .i64 i ∧ Hid (CL w wr p (cB sT i))) (fun u6 _ => 20 - (intOf u6).toNat)
      case atStart => exact ⟨4, by omega, by omega, by omega, rfl, HC1⟩
      case round =>
        clear HC1
        rename_i i0 _ _ _ _
        obtain ⟨i, hi19, hi4, hin, rfl, HC⟩ := hrel
        by_cases hil : i < 16
        · have hi1 : (i : Int) < 16 := by omega
          have hi0 : (0 : Int) ≤ (i : Int) := by omega
          obtain ⟨c1, f1⟩ := HC.out.1.tab.2 i hil
          rw [cB_at sT i hi4] at c1
          have ha := clB_three (i := i) (by omega) (sT i) (HL.out i)
          have HC1 : Hid (CL w (wr.setCell ⟨p, i, none⟩ (.int .u8 ((clB i (sT i) : Nat) : Int))) p (cB sT (i + 4))) := by
            have h := HC.out.set i (clB i (sT i))
            rw [cB_step sT i hi4 hin] at h
            exact h
          clear HC
          generalize clB i (sT i) = v at *
          generalize sT i = x at *
          have HI4 : Hid (i % 4 = 0) := hi4
          clear hi4 hin
          go_wp2_with fail
          go_roundw
          case rel => exact ⟨i + 4, by have := HI4.out; omega, by have := HI4.out; omega, by omega, by go_num, HC1⟩
          case measure => simp [intOf]; omega
        · have HI : Hid (i = 16) := (by omega : i = 16)
          have hni : ¬ (i : Int) < 16 := by omega
          rw [HI.out] at HC
          have HS2 := HC.out.1.tab.slice (c := 16) (by decide)
          rw [show lst .u8 (cB sT 16) 16 = lst .u8 (clP sT 16) 16 from lst_congr (fun k hk => cB_end sT k hk)] at HS2
          have hcv := run_lst_string Try.prog 5 35 9 Try.underlying35 Try.underlying5 Try.underlying9 wr (clP sT 16) 16 _ HS2 (by decide)
          rw [← HS.out] at hcv
          go_wp2_with fail
          refine bodyPost_ret (v := .tuple #[.string R, .int .i64 0]) (by simp [results, Try.results10, go_sem]) rfl ⟨rfl, HC.out.2.1⟩
end Go.Proofs.Ytgpcnmdaplkpoaa
