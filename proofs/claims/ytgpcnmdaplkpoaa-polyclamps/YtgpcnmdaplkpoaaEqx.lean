/-
  Two arrays of four words compared by '==': true just where the two numbers are one.
-/
import Derived.Test.YtgpcnmdaplkpoaaBase
namespace Go.Proofs.Ytgpcnmdaplkpoaa
open Go.RowKit
def eq4 (a0 a1 a2 a3 b0 b1 b2 b3 : Int) : Bool := a0 == b0 && (a1 == b1 && (a2 == b2 && a3 == b3))
theorem run_eq4 (a0 a1 a2 a3 b0 b1 b2 b3 : Int) (w : World) : (Op.equalIn 10000 48 (.agg #[.int .u64 a0, .int .u64 a1, .int .u64 a2, .int .u64 a3]) (.agg #[.int .u64 b0, .int .u64 b1, .int .u64 b2, .int .u64 b3])).run Try.prog w = .ok (eq4 a0 a1 a2 a3 b0 b1 b2 b3) w := by
  show (Op.equalIn (9998 + 1 + 1) 48 _ _).run Try.prog w = _
  rw [Op.equalIn]
  simp only [Sem.run_bind, run_underlying Try.underlying48, Result.andThen_ok]
  simp only [Std.Legacy.Range.forIn_eq_forIn_range', List.range', Std.Legacy.Range.size]
  simp [go_sem, run_equalIn_int, Try.underlying40]
  unfold eq4
  by_cases h0 : a0 = b0 <;> by_cases h1 : a1 = b1 <;> by_cases h2 : a2 = b2 <;> by_cases h3 : a3 = b3 <;> simp [h0, h1, h2, h3]
theorem eq4_iff {a0 a1 a2 a3 b0 b1 b2 b3 : Int} (ha : Lim4 a0 a1 a2 a3) (hb : Lim4 b0 b1 b2 b3) : (eq4 a0 a1 a2 a3 b0 b1 b2 b3 = true ↔ val a0 a1 a2 a3 = val b0 b1 b2 b3) := by
  constructor
  · intro h
    simp [eq4] at h
    obtain ⟨rfl, rfl, rfl, rfl⟩ := h
    rfl
  · intro h
    obtain ⟨rfl, rfl, rfl, rfl⟩ := val_inj ha hb h
    simp [eq4]
/-- -1, 0, 1, as the first is less than, is, is greater than the second. -/
def CmpP (a b n : Int) : Prop := (n = -1 ∧ a < b) ∨ (n = 0 ∧ a = b) ∨ (n = 1 ∧ b < a)
theorem cmp_of_sub {a0 a1 a2 a3 b0 b1 b2 b3 s0 s1 s2 s3 : Int} {c : Bool} (ha : Lim4 a0 a1 a2 a3) (hb : Lim4 b0 b1 b2 b3) (h : SubP a0 a1 a2 a3 b0 b1 b2 b3 s0 s1 s2 s3 c) : (c = true ↔ val a0 a1 a2 a3 < val b0 b1 b2 b3) := by
  obtain ⟨hs, he⟩ := h
  have h1 := val_bd ha
  have h2 := val_bd hb
  have h3 := val_bd hs
  cases c <;> simp at he ⊢ <;> omega
end Go.Proofs.Ytgpcnmdaplkpoaa
