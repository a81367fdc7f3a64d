/-
  Inverses modulo q by halves and differences: what stands at each step, and that it ends. No Go in this text.
-/
import Derived.Test.YtnaiccfdbapdpaaDoorRefSMul
import Derived.Test.YtnaiccfdbapdpaaDoorMaths
namespace Go.Proofs.YtnaiccfdbapdpaaDoor
/-- q, as a natural number. -/
def QN : Nat := 115792089210356248762697446949407573529996955224135760342422259061068512044369
theorem FQ_nat : FQ = (QN : Int) := by decide
theorem pr_qn : Pr QN := pr_n
theorem QN_odd : QN % 2 = 1 := by decide
/-- What stands at each step: u is A times x, v is A times y, modulo Q; u and v have no common divisor; k steps were not too many. -/
def InvI (Q : Nat) (A : Int) (u v : Nat) (x y : Int) (k : Nat) : Prop :=
  1 ≤ u ∧ 1 ≤ v ∧ Nat.Coprime u v ∧ ((Q : Int) ∣ A * x - u) ∧ ((Q : Int) ∣ A * y - v) ∧ ∃ h, u * v * P2 h ≤ Q * Q ∧ k ≤ 2 * h + (if u % 2 = 1 ∧ v % 2 = 1 then 0 else 1)
theorem half_dvd {Q : Nat} (hQ : Q % 2 = 1) {z : Int} (h : (Q : Int) ∣ 2 * z) : (Q : Int) ∣ z := by
  obtain ⟨m, hm⟩ := h
  obtain ⟨t, ht⟩ : ∃ t : Int, (Q : Int) = 2 * t + 1 := ⟨((Q / 2 : Nat) : Int), by omega⟩
  refine ⟨z - t * m, ?_⟩
  generalize (Q : Int) = q at *
  subst ht
  have e : (2 * t + 1) * (z - t * m) = 2 * t * z + z - t * ((2 * t + 1) * m) := by grind
  rw [e, ← hm]
  grind
theorem half_step {Q : Nat} (hQ : Q % 2 = 1) {A x x' : Int} {u u' : Nat} (hu : u = 2 * u') (hx : 2 * x' = x ∨ 2 * x' = x + Q) (h : (Q : Int) ∣ A * x - u) : (Q : Int) ∣ A * x' - u' := by
  refine half_dvd hQ ?_
  obtain ⟨m, hm⟩ := h
  have hu2 : (u : Int) = 2 * (u' : Int) := by omega
  rcases hx with hx | hx
  · refine ⟨m, ?_⟩
    rw [← hm, ← hx, hu2]
    generalize (u' : Int) = w
    grind
  · refine ⟨m + A, ?_⟩
    have : x = 2 * x' - Q := by omega
    rw [this, hu2] at hm
    generalize (Q : Int) = q at *
    generalize (u' : Int) = w at *
    grind
theorem invI_a {Q : Nat} (hQ : Q % 2 = 1) {A x x' y : Int} {u u' v k : Nat} (hu : u = 2 * u') (hx : 2 * x' = x ∨ 2 * x' = x + Q) (h : InvI Q A u v x y k) : InvI Q A u' v x' y (k + 1) := by
  obtain ⟨h1, h2, h3, h4, h5, n, h6, h7⟩ := h
  refine ⟨by omega, h2, Nat.Coprime.coprime_dvd_left ⟨2, by omega⟩ h3, half_step hQ hu hx h4, h5, n + 1, ?_, ?_⟩
  · rw [P2_add, show P2 1 = 2 from rfl]
    have : u' * v * (P2 n * 2) = u * v * P2 n := by subst hu; grind
    omega
  · have : ¬ (u % 2 = 1 ∧ v % 2 = 1) := by omega
    rw [if_neg this] at h7
    split <;> omega
theorem InvI.swap {Q : Nat} {A x y : Int} {u v k : Nat} (h : InvI Q A u v x y k) : InvI Q A v u y x k := by
  obtain ⟨h1, h2, h3, h4, h5, n, h6, h7⟩ := h
  refine ⟨h2, h1, h3.symm, h5, h4, n, by rw [Nat.mul_comm v u]; exact h6, ?_⟩
  split at h7
  · rename_i hc
    rw [if_pos ⟨hc.2, hc.1⟩]
    omega
  · split <;> omega
theorem cop_sub {u v : Nat} (huv : v ≤ u) (h : Nat.Coprime u v) : Nat.Coprime (u - v) v := by
  have h1 := Nat.gcd_dvd_left (u - v) v
  have h2 := Nat.gcd_dvd_right (u - v) v
  have h3 : Nat.gcd (u - v) v ∣ u := by
    have := Nat.dvd_add h1 h2
    rwa [Nat.sub_add_cancel huv] at this
  have h4 := Nat.dvd_gcd h3 h2
  rw [show Nat.gcd u v = 1 from h] at h4
  exact Nat.dvd_one.1 h4
theorem invI_c {Q : Nat} {A x x' y : Int} {u v k : Nat} (hu : u % 2 = 1) (hv : v % 2 = 1) (huv : v ≤ u) (hu1 : u ≠ 1) (hx : (Q : Int) ∣ x' - (x - y)) (h : InvI Q A u v x y k) : InvI Q A (u - v) v x' y (k + 1) := by
  obtain ⟨h1, h2, h3, h4, h5, n, h6, h7⟩ := h
  have hne : u ≠ v := by
    intro e
    subst e
    rw [Nat.coprime_self] at h3
    exact hu1 h3
  refine ⟨by omega, h2, cop_sub huv h3, ?_, h5, n, ?_, ?_⟩
  · obtain ⟨a, ha⟩ := h4
    obtain ⟨b, hb⟩ := h5
    obtain ⟨c, hc⟩ := hx
    refine ⟨a - b + A * c, ?_⟩
    have e : ((u - v : Nat) : Int) = (u : Int) - v := by omega
    rw [e]
    have e2 : x' = x - y + Q * c := by omega
    rw [e2]
    generalize (Q : Int) = q at *
    generalize (u : Int) = p at *
    generalize (v : Int) = r at *
    grind
  · exact Nat.le_trans (Nat.mul_le_mul_right _ (Nat.mul_le_mul_right _ (by omega))) h6
  · rw [if_pos ⟨hu, hv⟩] at h7
    have : ¬ ((u - v) % 2 = 1 ∧ v % 2 = 1) := by omega
    rw [if_neg this]
    omega
theorem P2_le {a b : Nat} (h : a ≤ b) : P2 a ≤ P2 b := Nat.pow_le_pow_right (by decide) h
/-- It ends ahead of 2000 steps. -/
theorem invI_end {A x y : Int} {u v k : Nat} (h : InvI QN A u v x y k) : k < 2000 := by
  obtain ⟨h1, h2, _, _, _, n, h6, h7⟩ := h
  have h8 : P2 n ≤ u * v * P2 n := by
    have : 1 ≤ u * v := Nat.mul_pos h1 h2
    calc P2 n = 1 * P2 n := (Nat.one_mul _).symm
      _ ≤ u * v * P2 n := Nat.mul_le_mul_right _ this
  have h9 : QN * QN < P2 512 := by
    rw [show P2 512 = P2 256 * P2 256 from P2_add 256 256, show P2 256 = 115792089237316195423570985008687907853269984665640564039457584007913129639936 from by decide]
    decide
  rcases Nat.lt_or_ge n 512 with hn | hn
  · split at h7 <;> omega
  · have := P2_le hn
    omega
theorem invI_start {A : Int} {u : Nat} (hA : A % FQ = (u : Int)) (hu : u ≠ 0) : InvI QN A u QN 1 0 0 := by
  have hq : (0 : Int) < QN := by decide
  have hlt : u < QN := by
    have := Int.emod_lt_of_pos A FQ_pos
    rw [hA, FQ_nat] at this
    omega
  refine ⟨by omega, by decide, ?_, ?_, ?_, 0, ?_, by omega⟩
  · refine (pr_qn.coprime ?_).symm
    intro hd
    have := Nat.le_of_dvd (by omega) hd
    omega
  · rw [Int.mul_one, ← hA, FQ_nat]
    refine ⟨A / QN, ?_⟩
    rw [Int.emod_def]
    generalize (QN : Int) * (A / QN) = t
    omega
  · rw [Int.mul_zero]
    exact ⟨-1, by omega⟩
  · rw [show P2 0 = 1 from rfl, Nat.mul_one]
    exact Nat.mul_le_mul_right _ (by omega)
/-- What Inv answers: 0 of 0; else the number whose product is 1. -/
def InvP (A r0 r1 r2 r3 : Int) : Prop := Lim4 r0 r1 r2 r3 ∧ val r0 r1 r2 r3 < FQ ∧ (A % FQ = 0 → val r0 r1 r2 r3 = 0) ∧ (A % FQ ≠ 0 → (A * val r0 r1 r2 r3) % FQ = 1)
theorem invI_one {A x y : Int} {v k : Nat} (h : InvI QN A 1 v x y k) : (A * x) % FQ = 1 := by
  obtain ⟨_, _, _, ⟨m, hm⟩, _⟩ := h
  have : A * x = 1 + FQ * m := by rw [FQ_nat]; omega
  rw [emodq_of m this]
  decide
end Go.Proofs.YtnaiccfdbapdpaaDoor
