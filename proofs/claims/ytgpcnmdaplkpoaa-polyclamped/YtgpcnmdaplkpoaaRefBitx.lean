/-
  The document's bit of a number and its small number (sandglassref01.Bit, Small), called; nothing old is turned.
-/
import Derived.Test.YtgpcnmdaplkpoaaBase
namespace Go.Proofs.Ytgpcnmdaplkpoaa
open Go.RowKit
/-- Bit number i, as the text reckons it. -/
def bitR (x : Int) (i : Nat) : Bool := bits BinOp.and IntKind.u64 (x / 2 ^ (i % 64)) 1 == 1
set_option maxHeartbeats 400000 in
theorem refBit_in (a0 a1 a2 a3 : Int) (i : Nat) (hi : i < 256) (w : World) :
    Calls Try.prog 24 #[.agg #[.int .u64 a0, .int .u64 a1, .int .u64 a2, .int .u64 a3], .int .i64 i] w fun e w' =>
      e = .returned (.bool (bitR (wd a0 a1 a2 a3 (i / 64)) i)) ∧ Ext w w' := by
  have ga := wd_get a0 a1 a2 a3 (i / 64) (by omega)
  have ga2 := get_some ga
  have HB : Hid (bitR (wd a0 a1 a2 a3 (i / 64)) i = (bits BinOp.and IntKind.u64 (wd a0 a1 a2 a3 (i / 64) / 2 ^ (i % 64)) 1 == 1)) := rfl
  generalize wd a0 a1 a2 a3 (i / 64) = x at *
  have h0 : (0 : Int) ≤ (i : Int) := by omega
  have h1 : (i : Int) < 256 := by omega
  have d0 : decide ((0 : Int) ≤ (i : Int)) = true := by simp
  have d1 : decide ((i : Int) < 256) = true := by simpa using h1
  go_enter Try.func24, Try.ntmps24
  go_wp2
  go_ret
  exact ⟨by rw [HB.out]; rfl, (Ext.refl _).alloc _⟩
set_option maxHeartbeats 400000 in
theorem refBit_out (a0 a1 a2 a3 : Int) (i : Int) (hi : i < 0 ∨ 255 < i) (w : World) :
    Calls Try.prog 24 #[.agg #[.int .u64 a0, .int .u64 a1, .int .u64 a2, .int .u64 a3], .int .i64 i] w fun e w' =>
      e = .returned (.bool false) ∧ Ext w w' := by
  by_cases h0 : 0 ≤ i
  · have h3 : ¬ i < 256 := by omega
    have d0 : decide (0 ≤ i) = true := by simpa using h0
    have d1 : decide (i < 256) = false := by simpa using h3
    go_enter Try.func24, Try.ntmps24
    go_wp2
    go_ret
    exact ⟨rfl, (Ext.refl _).alloc _⟩
  · have d0 : decide (0 ≤ i) = false := by simpa using h0
    go_enter Try.func24, Try.ntmps24
    go_wp2
    go_ret
    exact ⟨rfl, (Ext.refl _).alloc _⟩
theorem and1r (x : Int) (h : Lim x) : Go.bits BinOp.and IntKind.u64 x 1 = x % 2 := by
  have := bits_mask .u64 64 (by decide) (fun n p q => by rw [IntKind.wrap_u64]; have : (2 : Int) ^ 64 = 18446744073709551616 := by decide
                                                         omega) 1 (by decide) x h.1 (by rw [show (2 : Int) ^ 64 = 18446744073709551616 from by decide]; exact h.2)
  rw [show (2 : Int) ^ 1 - 1 = 1 from by decide, show (2 : Int) ^ 1 = 2 from by decide] at this
  exact this
theorem bit_nat (t s : Nat) (hs : s < 64) : t % 18446744073709551616 / 2 ^ s % 2 = t / 2 ^ s % 2 := by
  have h := Nat.testBit_mod_two_pow t 64 s
  rw [Nat.testBit_eq_decide_div_mod_eq, Nat.testBit_eq_decide_div_mod_eq, show (2 : Nat) ^ 64 = 18446744073709551616 from by decide] at h
  simp only [hs, decide_true, Bool.true_and, decide_eq_decide] at h
  generalize t % 18446744073709551616 / 2 ^ s = x at *
  generalize t / 2 ^ s = y at *
  omega
theorem wd_nat {a0 a1 a2 a3 : Int} (h : Lim4 a0 a1 a2 a3) (q : Nat) (hq : q < 4) : wd a0 a1 a2 a3 q = (((val a0 a1 a2 a3).toNat / 2 ^ (64 * q) % 18446744073709551616 : Nat) : Int) := by
  obtain ⟨⟨p0, q0⟩, ⟨p1, q1⟩, ⟨p2, q2⟩, ⟨p3, q3⟩⟩ := h
  have : q = 0 ∨ q = 1 ∨ q = 2 ∨ q = 3 := by omega
  unfold val wd
  rcases this with rfl | rfl | rfl | rfl <;> simp only [Nat.reduceMul, Nat.reducePow, if_true, Nat.one_ne_zero, if_false, Nat.reduceEqDiff] <;> omega
/-- Bit number i of four words is bit number i of the number. -/
theorem bitR_ok {a0 a1 a2 a3 : Int} (h : Lim4 a0 a1 a2 a3) (i : Nat) (hi : i < 256) : bitR (wd a0 a1 a2 a3 (i / 64)) i = decide ((val a0 a1 a2 a3).toNat / 2 ^ i % 2 = 1) := by
  have hl := wd_lim h (i / 64)
  have hw := wd_nat h (i / 64) (by omega)
  unfold bitR
  have h2 : (0 : Int) < 2 ^ (i % 64) := Int.pow_pos (by decide)
  rw [and1r _ (by
    unfold Lim at *
    exact ⟨Int.ediv_nonneg hl.1 (Int.le_of_lt h2), Int.lt_of_le_of_lt (Int.ediv_le_self _ hl.1) hl.2⟩), hw]
  have e : ∀ t : Nat, (t : Int) / 2 ^ (i % 64) % 2 = ((t / 2 ^ (i % 64) % 2 : Nat) : Int) := fun t => by
    push_cast
    rfl
  rw [e, bit_nat _ _ (by omega), Nat.div_div_eq_div_mul, ← Nat.pow_add, show 64 * (i / 64) + i % 64 = i from by omega]
  generalize (val a0 a1 a2 a3).toNat / 2 ^ i % 2 = z
  by_cases hz : z = 1
  · subst hz; rfl
  · simp [hz]
    omega
end Go.Proofs.Ytgpcnmdaplkpoaa
