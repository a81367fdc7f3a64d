/-
  The document's half of a number and its half modulo q (sandglassref03.half, halved), called; nothing old is turned.
-/
import Derived.Test.YtnaiccfdbapdpaaDoorRefAs
namespace Go.Proofs.YtnaiccfdbapdpaaDoor
open Go.RowKit
theorem or63 {x y : Int} (hx : Lim x) : bits BinOp.or IntKind.u64 (x / 2) (IntKind.u64.wrap (y * 9223372036854775808)) = x / 2 + y % 2 * 9223372036854775808 := by
  unfold Lim at *
  rw [IntKind.wrap_u64, show y * 9223372036854775808 % 18446744073709551616 = y % 2 * 9223372036854775808 from by omega]
  obtain ⟨a, ha⟩ := Int.eq_ofNat_of_zero_le (show 0 ≤ x / 2 by omega)
  obtain ⟨b, hb⟩ := Int.eq_ofNat_of_zero_le (show 0 ≤ y % 2 by omega)
  rw [ha, hb]
  have two : (2 : Nat) ^ 63 = 9223372036854775808 := by decide
  have e : ((b : Int) * 9223372036854775808) = ((2 ^ 63 * b : Nat) : Int) := by rw [two]; omega
  have l1 : 2 ^ 63 * b < 18446744073709551616 := by rw [two]; omega
  have l2 : a < 2 ^ 63 := by rw [two]; omega
  rw [e, u64_or_nat a (2 ^ 63 * b) (by omega) l1, Nat.or_comm, ← Nat.two_pow_add_eq_or_of_lt l2 b, two]
  omega
theorem or63c {x : Int} (hx : Lim x) : bits BinOp.or IntKind.u64 (x / 2) 9223372036854775808 = x / 2 + 9223372036854775808 := by
  have h := or63 hx (y := 1)
  rw [IntKind.wrap_u64] at h
  exact h
/-- What half answers. -/
def HalfP (a0 a1 a2 a3 : Int) (c : Bool) (r0 r1 r2 r3 : Int) : Prop := Lim4 r0 r1 r2 r3 ∧ val r0 r1 r2 r3 = (val a0 a1 a2 a3 + (if c then B256 else 0)) / 2
theorem half_of {a0 a1 a2 a3 r0 r1 r2 r3 : Int} {c : Bool} (ha : Lim4 a0 a1 a2 a3) (h0 : bits BinOp.or IntKind.u64 (a0 / 2) (IntKind.u64.wrap (a1 * 9223372036854775808)) = r0) (h1 : bits BinOp.or IntKind.u64 (a1 / 2) (IntKind.u64.wrap (a2 * 9223372036854775808)) = r1) (h2 : bits BinOp.or IntKind.u64 (a2 / 2) (IntKind.u64.wrap (a3 * 9223372036854775808)) = r2) (h3 : (if c then bits BinOp.or IntKind.u64 (a3 / 2) 9223372036854775808 else a3 / 2) = r3) : HalfP a0 a1 a2 a3 c r0 r1 r2 r3 := by
  obtain ⟨p0, p1, p2, p3⟩ := ha
  rw [or63 p0] at h0
  rw [or63 p1] at h1
  rw [or63 p2] at h2
  rw [or63c p3] at h3
  unfold HalfP Lim4 Lim val B256 at *
  cases c <;> simp at h3 ⊢ <;> omega
def HW (a0 a1 a2 a3 r0 r1 r2 r3 : Int) (k : Nat) : Array Value := if k = 0 then #[.int .u64 a0, .int .u64 a1, .int .u64 a2, .int .u64 a3] else if k = 1 then #[.int .u64 r0, .int .u64 a1, .int .u64 a2, .int .u64 a3] else if k = 2 then #[.int .u64 r0, .int .u64 r1, .int .u64 a2, .int .u64 a3] else if k = 3 then #[.int .u64 r0, .int .u64 r1, .int .u64 r2, .int .u64 a3] else #[.int .u64 r0, .int .u64 r1, .int .u64 r2, .int .u64 r3]
attribute [local go_sem] setCell_drewN alloc_drewN
set_option maxHeartbeats 1000000 in
theorem refhalf_any (a0 a1 a2 a3 : Int) (c : Bool) (ha : Lim4 a0 a1 a2 a3) (w : World) :
    Calls Tryd.prog 50 #[.agg #[.int .u64 a0, .int .u64 a1, .int .u64 a2, .int .u64 a3], .bool c] w fun e w' => ∃ r0 r1 r2 r3 : Int, e = .returned (.agg #[.int .u64 r0, .int .u64 r1, .int .u64 r2, .int .u64 r3]) ∧ Hid (HalfP a0 a1 a2 a3 c r0 r1 r2 r3) ∧ Ext w w' := by
  obtain ⟨r0, h0⟩ : ∃ r, bits BinOp.or IntKind.u64 (a0 / 2) (IntKind.u64.wrap (a1 * 9223372036854775808)) = r := ⟨_, rfl⟩
  obtain ⟨r1, h1⟩ : ∃ r, bits BinOp.or IntKind.u64 (a1 / 2) (IntKind.u64.wrap (a2 * 9223372036854775808)) = r := ⟨_, rfl⟩
  obtain ⟨r2, h2⟩ : ∃ r, bits BinOp.or IntKind.u64 (a2 / 2) (IntKind.u64.wrap (a3 * 9223372036854775808)) = r := ⟨_, rfl⟩
  obtain ⟨r3, h3⟩ : ∃ r, (if c then bits BinOp.or IntKind.u64 (a3 / 2) 9223372036854775808 else a3 / 2) = r := ⟨_, rfl⟩
  have HF : Hid (HalfP a0 a1 a2 a3 c r0 r1 r2 r3) := half_of ha h0 h1 h2 h3
  go_enter Tryd.func50, Tryd.ntmps50
  go_wp2
  go_loopw [5] (fun i wr => ∃ (k n : Nat), k ≤ 4 ∧ i = .int .i64 k ∧ wr = ((w.alloc (.cells (HW a0 a1 a2 a3 r0 r1 r2 r3 k) 26)).alloc (.cells #[.int .u64 0, .int .u64 0, .int .u64 0, .int .u64 0] 26)).drewN n) (fun i _ => 4 - (intOf i).toNat)
  case atStart => exact ⟨0, 0, by omega, rfl, rfl⟩
  case round =>
    obtain ⟨k, n, hk, rfl, rfl⟩ := hrel
    have hc : k = 0 ∨ k = 1 ∨ k = 2 ∨ k = 3 ∨ k = 4 := by omega
    rcases hc with rfl | rfl | rfl | rfl | rfl
    · rw [show HW a0 a1 a2 a3 r0 r1 r2 r3 0 = #[.int .u64 a0, .int .u64 a1, .int .u64 a2, .int .u64 a3] from rfl]
      go_wp2
      go_region_with (fail)
      all_goals
        go_wp2
        go_roundw
        case rel => exact ⟨1, n + 1, by omega, by go_num, rfl⟩
        case measure => simp [intOf]
    · rw [show HW a0 a1 a2 a3 r0 r1 r2 r3 1 = #[.int .u64 r0, .int .u64 a1, .int .u64 a2, .int .u64 a3] from rfl]
      go_wp2
      go_region_with (fail)
      all_goals
        go_wp2
        go_roundw
        case rel => exact ⟨2, n + 1, by omega, by go_num, rfl⟩
        case measure => simp [intOf]
    · rw [show HW a0 a1 a2 a3 r0 r1 r2 r3 2 = #[.int .u64 r0, .int .u64 r1, .int .u64 a2, .int .u64 a3] from rfl]
      go_wp2
      go_region_with (fail)
      all_goals
        go_wp2
        go_roundw
        case rel => exact ⟨3, n + 1, by omega, by go_num, rfl⟩
        case measure => simp [intOf]
    · rw [show HW a0 a1 a2 a3 r0 r1 r2 r3 3 = #[.int .u64 r0, .int .u64 r1, .int .u64 r2, .int .u64 a3] from rfl]
      cases c
      · simp only [Bool.false_eq_true, if_false] at h3
        go_wp2
        go_roundw
        case rel => exact ⟨4, n, by omega, by go_num, rfl⟩
        case measure => simp [intOf]
      · simp only [if_true] at h3
        go_wp2
        go_roundw
        case rel => exact ⟨4, n, by omega, by go_num, rfl⟩
        case measure => simp [intOf]
    · rw [show HW a0 a1 a2 a3 r0 r1 r2 r3 4 = #[.int .u64 r0, .int .u64 r1, .int .u64 r2, .int .u64 r3] from rfl]
      go_wp2
      refine bodyPost_ret (v := .agg #[.int .u64 r0, .int .u64 r1, .int .u64 r2, .int .u64 r3]) (by simp [results, Tryd.results50, go_sem]) rfl ⟨r0, r1, r2, r3, rfl, HF, ?_⟩
      exact (((Ext.refl _).alloc _).alloc _).drewN _
end Go.Proofs.YtnaiccfdbapdpaaDoor
