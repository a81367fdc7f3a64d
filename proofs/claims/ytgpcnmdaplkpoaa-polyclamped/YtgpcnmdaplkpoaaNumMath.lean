/-
  Numbers of bytes, the lowest first: no Go in this text.
-/
import Derived.Test.YtgpcnmdaplkpoaaPolyMath
import Derived.Test.YtgpcnmdaplkpoaaBase
import Derived.Laws.BitsAllLaws
namespace Go.Proofs.Ytgpcnmdaplkpoaa
open Go.RowKit
/-- The number of the first n bytes. -/
def leN (T : Nat → Nat) : Nat → Nat
  | 0 => 0
  | n + 1 => leN T n + T n * 2 ^ (8 * n)
/-- Its words. -/
def nw (T : Nat → Nat) : Nat → Nat → Nat
  | 0, _ => 0
  | i + 1, q => if q = i / 8 then nw T i q + T i * 2 ^ (8 * (i % 8)) else nw T i q
theorem leN_lt {T : Nat → Nat} (h : ∀ i, T i < 256) (n : Nat) : leN T n < 2 ^ (8 * n) := by
  induction n with
  | zero => exact Nat.one_pos
  | succ n ih =>
    have h1 := h n
    unfold leN
    rw [show 8 * (n + 1) = 8 * n + 8 from by omega, Nat.pow_add]
    have h2 : T n * 2 ^ (8 * n) ≤ 255 * 2 ^ (8 * n) := Nat.mul_le_mul_right _ (by omega)
    generalize 2 ^ (8 * n) = P at *
    generalize T n * P = z at *
    omega
theorem nw_bd {T : Nat → Nat} (h : ∀ i, T i < 256) (i q : Nat) : nw T i q < 2 ^ (8 * min (i - 8 * q) 8) := by
  induction i with
  | zero => unfold nw; exact Nat.pow_pos (by decide)
  | succ i ih =>
    unfold nw
    split
    · rename_i e
      have e1 : min (i - 8 * q) 8 = i % 8 := by omega
      have e2 : min (i + 1 - 8 * q) 8 = i % 8 + 1 := by omega
      rw [e1] at ih
      rw [e2, show 8 * (i % 8 + 1) = 8 * (i % 8) + 8 from by omega, Nat.pow_add]
      have h1 := h i
      have h2 : T i * 2 ^ (8 * (i % 8)) ≤ 255 * 2 ^ (8 * (i % 8)) := Nat.mul_le_mul_right _ (by omega)
      generalize 2 ^ (8 * (i % 8)) = P at *
      generalize T i * P = z at *
      omega
    · rename_i e
      have : min (i + 1 - 8 * q) 8 = min (i - 8 * q) 8 := by omega
      rw [this]
      exact ih
theorem nw_lt {T : Nat → Nat} (h : ∀ i, T i < 256) (i q : Nat) : nw T i q < 18446744073709551616 := by
  refine Nat.lt_of_lt_of_le (nw_bd h i q) ?_
  rw [show (18446744073709551616 : Nat) = 2 ^ 64 from by decide]
  exact Nat.pow_le_pow_right (by decide) (by omega)
theorem nw_at {T : Nat → Nat} (h : ∀ i, T i < 256) (i : Nat) : nw T i (i / 8) < 2 ^ (8 * (i % 8)) := by
  have := nw_bd h i (i / 8)
  rwa [show min (i - 8 * (i / 8)) 8 = i % 8 from by omega] at this
theorem nw_val {T : Nat → Nat} (n : Nat) (hn : n ≤ 32) : nw T n 0 + 18446744073709551616 * nw T n 1 + 340282366920938463463374607431768211456 * nw T n 2 + 6277101735386680763835789423207666416102355444464034512896 * nw T n 3 = leN T n := by
  induction n with
  | zero => rfl
  | succ n ih =>
    have ih := ih (by omega)
    unfold leN nw
    have e : 2 ^ (8 * n) = 2 ^ (8 * (n % 8)) * 2 ^ (64 * (n / 8)) := by rw [← Nat.pow_add]; congr 1; omega
    rw [e]
    have hq : n / 8 = 0 ∨ n / 8 = 1 ∨ n / 8 = 2 ∨ n / 8 = 3 := by omega
    rw [← ih]
    rcases hq with hq | hq | hq | hq <;> rw [hq] <;> simp only [if_true, Nat.reduceEqDiff, if_false, Nat.mul_zero, Nat.mul_one, Nat.reduceMul, Nat.reducePow, Nat.zero_ne_one, Nat.one_ne_zero]
    all_goals
      try rw [← Nat.mul_assoc (T n)]
      generalize T n * 2 ^ (8 * (n % 8)) = z
      omega
/-- Words as they lie in the array. -/
def nwI (T : Nat → Nat) (i : Nat) (q : Nat) : Int := ((nw T i q : Nat) : Int)
theorem nwI_lim {T : Nat → Nat} (h : ∀ i, T i < 256) (i : Nat) : Lim4 (nwI T i 0) (nwI T i 1) (nwI T i 2) (nwI T i 3) := by
  unfold Lim4 Lim nwI
  have h0 := nw_lt h i 0
  have h1 := nw_lt h i 1
  have h2 := nw_lt h i 2
  have h3 := nw_lt h i 3
  omega
theorem nwI_val {T : Nat → Nat} (n : Nat) (hn : n ≤ 32) : val (nwI T n 0) (nwI T n 1) (nwI T n 2) (nwI T n 3) = ((leN T n : Nat) : Int) := by
  have := nw_val (T := T) n hn
  unfold val nwI
  omega
theorem nwI_step (T : Nat → Nat) (i : Nat) : (fun j => if j = i / 8 then ((nw T i (i / 8) + T i * 2 ^ (8 * (i % 8)) : Nat) : Int) else nwI T i j) = nwI T (i + 1) := by
  funext j
  unfold nwI
  by_cases e : j = i / 8
  · subst e
    rw [if_pos rfl]
    congr 1
    rw [nw]
    rw [if_pos rfl]
  · rw [if_neg e]
    congr 1
    rw [nw]
    rw [if_neg e]
/-- The numbers of one byte: its place, its shift, the word behind. -/
theorem num_step {T : Nat → Nat} (h : ∀ i, T i < 256) (i : Nat) (hi : i < 32) : ∃ q k z x b : Nat, q = i / 8 ∧ q < 4 ∧ k < 64 ∧ b = T i ∧ nwI T i q = (x : Int) ∧ (i : Int).tdiv 8 = (q : Int) ∧ ∃ r : Nat, (i : Int).tmod 8 = (r : Int) ∧ IntKind.i64.wrap (8 * (r : Int)) = (k : Int) ∧ IntKind.u64.wrap (k : Int) = (k : Int) ∧ IntKind.u64.wrap (b : Int) = (b : Int) ∧ IntKind.u64.wrap ((b : Int) * 2 ^ k) = (z : Int) ∧ bits BinOp.or IntKind.u64 (x : Int) (z : Int) = ((nw T i (i / 8) + T i * 2 ^ (8 * (i % 8)) : Nat) : Int) := by
  have hb := h i
  have hx := nw_at h i
  have hk : 8 * (i % 8) ≤ 56 := by omega
  have hz : T i * 2 ^ (8 * (i % 8)) < 2 ^ 64 := by
    refine Nat.lt_of_lt_of_le (Nat.mul_lt_mul_of_pos_right hb (Nat.pow_pos (by decide))) ?_
    rw [show (256 : Nat) = 2 ^ 8 from rfl, ← Nat.pow_add]
    exact Nat.pow_le_pow_right (by decide) (by omega)
  refine ⟨i / 8, 8 * (i % 8), T i * 2 ^ (8 * (i % 8)), nw T i (i / 8), T i, rfl, by omega, by omega, rfl, rfl, ?_, i % 8, ?_, ?_, ?_, ?_, ?_, ?_⟩
  · rw [Int.tdiv_eq_ediv_of_nonneg (by omega)]; omega
  · rw [Int.tmod_eq_emod_of_nonneg (by omega)]; omega
  · rw [IntKind.wrap_i64]; omega
  · rw [IntKind.wrap_u64]; omega
  · rw [IntKind.wrap_u64]; omega
  · have e : (T i : Int) * 2 ^ (8 * (i % 8)) = ((T i * 2 ^ (8 * (i % 8)) : Nat) : Int) := by
      rw [Int.natCast_mul, Int.natCast_pow]; rfl
    rw [e, IntKind.wrap_u64]
    generalize T i * 2 ^ (8 * (i % 8)) = z at *
    omega
  · have e := u64_or_nat (nw T i (i / 8)) (T i * 2 ^ (8 * (i % 8))) (nw_lt h _ _) hz
    rw [e]
    congr 1
    rw [Nat.or_comm, Nat.mul_comm, Nat.add_comm]
    exact (Nat.two_pow_add_eq_or_of_lt hx (T i)).symm
end Go.Proofs.Ytgpcnmdaplkpoaa
