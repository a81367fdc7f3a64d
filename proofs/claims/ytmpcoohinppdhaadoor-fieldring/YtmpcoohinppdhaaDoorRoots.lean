/-
  Inverses and roots modulo a prime that is 3 modulo 4: by powers. No Go in this text.
-/
import Derived.Test.YtmpcoohinppdhaaDoorPrime
namespace Go.Proofs.YtmpcoohinppdhaaDoor
theorem mod_eq_of_dvd_sub {p x y : Nat} (hxy : y ≤ x) (h : p ∣ x - y) : x % p = y % p := by
  obtain ⟨c, hc⟩ := h
  have : x = p * c + y := by omega
  rw [this, Nat.mul_add_mod]
theorem dvd_sub_of_mod {p x y : Nat} (h : x % p = y % p) : p ∣ x - y := Nat.dvd_of_mod_eq_zero (Nat.sub_mod_eq_zero_of_mod_eq h)
/-- The inverse is the power by p - 2. -/
theorem inv_pow {p a : Nat} (hp : Pr p) (ha : ¬ p ∣ a) : a * (a ^ (p - 2)) % p = 1 := by
  have h2 := hp.1
  have e : a * a ^ (p - 2) = a ^ (p - 1) := by
    rw [Nat.mul_comm, ← Nat.pow_succ]
    congr 1
    omega
  rw [e]
  exact fermat hp ha
theorem inv_zero {p a : Nat} (hp : Pr p) (h3 : 3 ≤ p) (ha : p ∣ a) : a ^ (p - 2) % p = 0 := by
  have _ := hp
  refine Nat.mod_eq_zero_of_dvd (Nat.dvd_trans ha ?_)
  have := Nat.pow_dvd_pow a (show 1 ≤ p - 2 by omega)
  rwa [Nat.pow_one] at this
/-- What has the same product with a is the same. -/
theorem mul_cancel {p a x y : Nat} (hp : Pr p) (ha : ¬ p ∣ a) (h : a * x % p = a * y % p) : x % p = y % p := by
  rcases Nat.le_total y x with hle | hle
  · have hd := dvd_sub_of_mod h
    rw [← Nat.mul_sub] at hd
    rcases hp.mul hd with h1 | h1
    · exact absurd h1 ha
    · exact mod_eq_of_dvd_sub hle h1
  · have hd := dvd_sub_of_mod h.symm
    rw [← Nat.mul_sub] at hd
    rcases hp.mul hd with h1 | h1
    · exact absurd h1 ha
    · exact (mod_eq_of_dvd_sub hle h1).symm
/-- Two numbers of one square are the same, or opposite. -/
theorem square_two {p x y : Nat} (hp : Pr p) (h : x * x % p = y * y % p) : x % p = y % p ∨ (x + y) % p = 0 := by
  have key : ∀ x y : Nat, y ≤ x → x * x % p = y * y % p → x % p = y % p ∨ (x + y) % p = 0 := by
    intro x y hle h
    have hd := dvd_sub_of_mod h
    have e : x * x - y * y = (x + y) * (x - y) := (Nat.mul_self_sub_mul_self_eq x y)
    rw [e] at hd
    rcases hp.mul hd with h1 | h1
    · exact .inr (Nat.mod_eq_zero_of_dvd h1)
    · exact .inl (mod_eq_of_dvd_sub hle h1)
  rcases Nat.le_total y x with hle | hle
  · exact key x y hle h
  · rcases key y x hle h.symm with h1 | h1
    · exact .inl h1.symm
    · exact .inr (by rw [Nat.add_comm]; exact h1)
/-- The half power of a number is 1 or its opposite. -/
theorem half_two {p a : Nat} (hp : Pr p) (h4 : p % 4 = 3) (ha : ¬ p ∣ a) : a ^ ((p - 1) / 2) % p = 1 ∨ (a ^ ((p - 1) / 2) + 1) % p = 0 := by
  have h2 := hp.1
  have e : a ^ ((p - 1) / 2) * a ^ ((p - 1) / 2) = a ^ (p - 1) := by
    rw [← Nat.pow_add]
    congr 1
    omega
  have h : a ^ ((p - 1) / 2) * a ^ ((p - 1) / 2) % p = 1 * 1 % p := by
    rw [e, fermat hp ha]
    exact (Nat.mod_eq_of_lt (by omega)).symm
  rcases square_two hp h with h1 | h1
  · left; rw [h1]; exact Nat.mod_eq_of_lt (by omega)
  · right; exact h1
/-- The power by (p + 1) / 4 squared is the number times its half power. -/
theorem quarter_sq {p a : Nat} (h4 : p % 4 = 3) : a ^ ((p + 1) / 4) * a ^ ((p + 1) / 4) = a * a ^ ((p - 1) / 2) := by
  rw [← Nat.pow_add, Nat.mul_comm, ← Nat.pow_succ]
  congr 1
  omega
/-- It is a root just where the half power is 1. -/
theorem root_iff {p a : Nat} (hp : Pr p) (h4 : p % 4 = 3) (ha : ¬ p ∣ a) : a ^ ((p + 1) / 4) * a ^ ((p + 1) / 4) % p = a % p ↔ a ^ ((p - 1) / 2) % p = 1 := by
  have h2 := hp.1
  have one : 1 % p = 1 := Nat.mod_eq_of_lt (by omega)
  rw [quarter_sq h4]
  constructor
  · intro h
    have : a * a ^ ((p - 1) / 2) % p = a * 1 % p := by rw [h, Nat.mul_one]
    have := mul_cancel hp ha this
    rw [this, one]
  · intro h
    rw [Nat.mul_mod, h, Nat.mul_one, Nat.mod_mod]
/-- A square has a root: that power. -/
theorem root_square {p b : Nat} (hp : Pr p) (h4 : p % 4 = 3) : (b * b) ^ ((p + 1) / 4) * (b * b) ^ ((p + 1) / 4) % p = b * b % p := by
  have h2 := hp.1
  by_cases hb : p ∣ b
  · have hbb : p ∣ b * b := Nat.dvd_trans hb (Nat.dvd_mul_right b b)
    rw [quarter_sq h4, Nat.mod_eq_zero_of_dvd hbb, Nat.mod_eq_zero_of_dvd (Nat.dvd_trans hbb (Nat.dvd_mul_right _ _))]
  · have hbb : ¬ p ∣ b * b := fun h => by rcases hp.mul h with h | h <;> exact hb h
    rw [root_iff hp h4 hbb]
    have e : (b * b) ^ ((p - 1) / 2) = b ^ (p - 1) := by
      rw [show b * b = b ^ 2 from by rw [Nat.pow_succ, Nat.pow_one], ← Nat.pow_mul]
      congr 1
      omega
    rw [e]
    exact fermat hp hb
/-- An odd power of two numbers whose sum is 0: the sum of the powers is 0. -/
theorem odd_pow {p x y : Nat} (h : (x + y) % p = 0) : ∀ k, (x ^ (2 * k + 1) + y ^ (2 * k + 1)) % p = 0 := by
  have hd : (p : Int) ∣ (x : Int) + y := by
    have := Nat.dvd_of_mod_eq_zero h
    exact_mod_cast this
  intro k
  have key : (p : Int) ∣ (x : Int) ^ (2 * k + 1) + (y : Int) ^ (2 * k + 1) := by
    induction k with
    | zero => rw [show 2 * 0 + 1 = 1 from rfl, Int.pow_succ, Int.pow_succ, Int.pow_zero, Int.pow_zero, Int.one_mul, Int.one_mul]; exact hd
    | succ k ih =>
      have e : (x : Int) ^ (2 * (k + 1) + 1) + (y : Int) ^ (2 * (k + 1) + 1) = (x : Int) ^ 2 * ((x : Int) ^ (2 * k + 1) + (y : Int) ^ (2 * k + 1)) + ((x : Int) + y) * (((y : Int) - x) * (y : Int) ^ (2 * k + 1)) := by
        have ex : (x : Int) ^ (2 * (k + 1) + 1) = (x : Int) ^ (2 * k + 1) * (x : Int) ^ 2 := by rw [← Int.pow_add]; congr 1
        have ey : (y : Int) ^ (2 * (k + 1) + 1) = (y : Int) ^ (2 * k + 1) * (y : Int) ^ 2 := by rw [← Int.pow_add]; congr 1
        rw [ex, ey]
        clear ex ey ih
        generalize (x : Int) ^ (2 * k + 1) = u
        generalize (y : Int) ^ (2 * k + 1) = v
        grind
      rw [e]
      exact Int.dvd_add (Int.dvd_trans ih (Int.dvd_mul_left _ _)) (Int.dvd_trans hd (Int.dvd_mul_right _ _))
  refine Nat.mod_eq_zero_of_dvd ?_
  exact_mod_cast key
/-- Of a number and its opposite, but 0, just one has a root. -/
theorem root_one_of {p a b : Nat} (hp : Pr p) (h4 : p % 4 = 3) (ha : ¬ p ∣ a) (hb : ¬ p ∣ b) (hab : (a + b) % p = 0) :
    (a ^ ((p + 1) / 4) * a ^ ((p + 1) / 4) % p = a % p) ↔ ¬ (b ^ ((p + 1) / 4) * b ^ ((p + 1) / 4) % p = b % p) := by
  have h2 := hp.1
  rw [root_iff hp h4 ha, root_iff hp h4 hb]
  have ho := odd_pow hab ((p - 3) / 4)
  rw [show 2 * ((p - 3) / 4) + 1 = (p - 1) / 2 from by omega] at ho
  have h3 : 3 ≤ p := by omega
  have hv := half_two hp h4 hb
  generalize a ^ ((p - 1) / 2) = u at *
  generalize b ^ ((p - 1) / 2) = v at *
  constructor
  · intro hu hv1
    rw [Nat.add_mod, hu, hv1, Nat.mod_eq_of_lt (show 1 + 1 < p by omega)] at ho
    omega
  · intro hn
    rcases hv with hv | hv
    · exact absurd hv hn
    · have h5 : (u + v) % p = (1 + v) % p := by rw [ho, Nat.add_comm 1 v, hv]
      rcases Nat.le_total 1 u with hle | hle
      · have hd := dvd_sub_of_mod h5
        rw [show u + v - (1 + v) = u - 1 from by omega] at hd
        rw [mod_eq_of_dvd_sub hle hd]
        exact Nat.mod_eq_of_lt (by omega)
      · have hd := dvd_sub_of_mod h5.symm
        rw [show 1 + v - (u + v) = 1 - u from by omega] at hd
        rcases Nat.lt_or_ge u 1 with h | h
        · have := Nat.le_of_dvd (by omega) hd
          omega
        · rw [show u = 1 from by omega]
          exact Nat.mod_eq_of_lt (by omega)
end Go.Proofs.YtmpcoohinppdhaaDoor
