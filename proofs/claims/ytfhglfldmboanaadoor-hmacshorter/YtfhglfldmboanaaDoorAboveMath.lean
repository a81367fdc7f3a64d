/-
  When a number of some words is above another, as sandglassref07.above finds it; roots by halves. No Go in this text.
-/
import Derived.Test.YtfhglfldmboanaaDoorMulMath
namespace Go.Proofs.YtfhglfldmboanaaDoor
theorem BW_pos (n : Nat) : 0 < BW ^ n := Nat.pow_pos (by decide)
theorem nvf_lt {P : Nat → Nat} (h : ∀ k, P k < BW) (n : Nat) : nvf P n < BW ^ n := by
  induction n with
  | zero => simp [nvf]
  | succ n ih =>
    unfold nvf
    rw [Nat.pow_succ]
    have h1 := h n
    have h2 : P n * BW ^ n ≤ (BW - 1) * BW ^ n := Nat.mul_le_mul_right _ (by omega)
    have h3 : (BW - 1) * BW ^ n + BW ^ n = BW ^ n * BW := by
      rw [Nat.mul_comm (BW ^ n) BW, ← Nat.succ_mul]
      rfl
    omega
theorem nvf_mono {P : Nat → Nat} {n m : Nat} (h : n ≤ m) : nvf P n ≤ nvf P m := by
  induction m with
  | zero => have : n = 0 := by omega
            subst this; exact Nat.le_refl _
  | succ m ih =>
    by_cases e : n = m + 1
    · subst e; exact Nat.le_refl _
    · exact Nat.le_trans (ih (by omega)) (by show nvf P m ≤ nvf P m + P m * BW ^ m; omega)
theorem nvf_ge {P : Nat → Nat} {k m : Nat} (hk : k < m) : P k * BW ^ k ≤ nvf P m :=
  Nat.le_trans (by show P k * BW ^ k ≤ nvf P (k + 1); unfold nvf; omega) (nvf_mono (n := k + 1) hk)
theorem above_high {P : Nat → Nat} {x n k m : Nat} (hx : x < BW) (hn : n < k) (hk : k < m) (h : 0 < P k) : x * BW ^ n < nvf P m := by
  have h1 := nvf_ge (P := P) hk
  have h2 : BW ^ k ≤ P k * BW ^ k := Nat.le_mul_of_pos_left _ h
  have h3 : BW ^ (n + 1) ≤ BW ^ k := Nat.pow_le_pow_right (by decide) hn
  have h4 : x * BW ^ n < BW ^ (n + 1) := by
    rw [Nat.pow_succ, Nat.mul_comm (BW ^ n)]
    exact Nat.mul_lt_mul_of_pos_right hx (BW_pos n)
  omega
theorem nvf_zero {P : Nat → Nat} {n m : Nat} (hn : n ≤ m) (h : ∀ k, n ≤ k → k < m → P k = 0) : nvf P m = nvf P n := by
  induction m with
  | zero => have : n = 0 := by omega
            subst this; rfl
  | succ m ih =>
    by_cases e : n = m + 1
    · subst e; rfl
    · show nvf P m + P m * BW ^ m = nvf P n
      rw [h m (by omega) (by omega), ih (by omega) (fun k h1 h2 => h k h1 (by omega))]
      omega
theorem above_mid {P : Nat → Nat} {x n m : Nat} (hP : ∀ k, P k < BW) (hn : n < m) (h : ∀ k, n + 1 ≤ k → k < m → P k = 0) (hne : P n ≠ x) : (x < P n) ↔ x * BW ^ n < nvf P m := by
  rw [nvf_zero hn h]
  have h1 := nvf_lt hP n
  show x < P n ↔ x * BW ^ n < nvf P n + P n * BW ^ n
  constructor
  · intro h2
    have h3 : (x + 1) * BW ^ n ≤ P n * BW ^ n := Nat.mul_le_mul_right _ h2
    rw [Nat.succ_mul] at h3
    have := BW_pos n
    omega
  · intro h2
    rcases Nat.lt_or_ge x (P n) with h3 | h3
    · exact h3
    · have h4 : (P n + 1) * BW ^ n ≤ x * BW ^ n := Nat.mul_le_mul_right _ (by omega)
      rw [Nat.succ_mul] at h4
      omega
theorem above_low {P : Nat → Nat} {x n k m : Nat} (hn : n < m) (he : P n = x) (hk : k < n) (h : 0 < P k) : x * BW ^ n < nvf P m := by
  have h1 := nvf_ge (P := P) hk
  have h2 : 0 < P k * BW ^ k := Nat.mul_pos h (BW_pos k)
  have h3 := nvf_mono (P := P) (n := n + 1) (m := m) hn
  have h4 : nvf P (n + 1) = nvf P n + P n * BW ^ n := rfl
  rw [he] at h4
  omega
theorem above_not {P : Nat → Nat} {x n m : Nat} (hn : n < m) (h : ∀ k, n + 1 ≤ k → k < m → P k = 0) (he : P n = x) (hl : ∀ k, k < n → P k = 0) : ¬ x * BW ^ n < nvf P m := by
  rw [nvf_zero hn h]
  show ¬ x * BW ^ n < nvf P n + P n * BW ^ n
  rw [he, nvf_zero (P := P) (Nat.zero_le n) (fun k _ hk => hl k hk)]
  simp [nvf]
/-- A root by halves: r is the greatest of 2^k .. whose power is not above. -/
def rootN (x p : Nat) : Nat → Nat
  | 0 => 0
  | s + 1 => if x * BW ^ p < (rootN x p s + 2 ^ (39 - s)) ^ p then rootN x p s else rootN x p s + 2 ^ (39 - s)
theorem rootN_mod (x p s : Nat) (hs : s ≤ 40) : rootN x p s % 2 ^ (40 - s) = 0 ∧ rootN x p s < 2 ^ 40 := by
  induction s with
  | zero => simp [rootN]
  | succ s ih =>
    obtain ⟨h1, h2⟩ := ih (by omega)
    have e : 2 ^ (40 - s) = 2 * 2 ^ (39 - s) := by rw [show 40 - s = (39 - s) + 1 from by omega, Nat.pow_succ, Nat.mul_comm]
    rw [show 40 - (s + 1) = 39 - s from by omega]
    have h3 : rootN x p s % 2 ^ (39 - s) = 0 := by
      have hd := Nat.dvd_of_mod_eq_zero h1
      rw [e] at hd
      exact Nat.mod_eq_zero_of_dvd (Nat.dvd_trans (Nat.dvd_mul_left _ _) hd)
    unfold rootN
    split
    · exact ⟨h3, h2⟩
    · refine ⟨by rw [Nat.add_mod_right]; exact h3, ?_⟩
      obtain ⟨q, hq⟩ := Nat.dvd_of_mod_eq_zero h1
      have hb : (2 : Nat) ^ 40 = 2 ^ (40 - s) * 2 ^ s := by rw [← Nat.pow_add]; congr 1; omega
      rw [hb] at h2 ⊢
      rw [hq] at h2 ⊢
      have hp : 0 < 2 ^ (40 - s) := Nat.pow_pos (by decide)
      have h4 : q < 2 ^ s := Nat.lt_of_mul_lt_mul_left h2
      have h5 : 2 ^ (40 - s) * (q + 1) ≤ 2 ^ (40 - s) * 2 ^ s := Nat.mul_le_mul_left _ h4
      rw [Nat.mul_add, Nat.mul_one] at h5
      have h6 : 2 ^ (39 - s) < 2 ^ (40 - s) := Nat.pow_lt_pow_right (by decide) (by omega)
      omega
end Go.Proofs.YtfhglfldmboanaaDoor
