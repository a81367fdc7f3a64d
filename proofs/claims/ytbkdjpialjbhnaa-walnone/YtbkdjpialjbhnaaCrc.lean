/-
  The sum of a record's bytes (a cyclic code of 32 bits), over natural numbers, by its definition: a step is linear and one to one. No Go in this text.
-/
import Derived.Test.YtbkdjpialjbhnaaRows
import Derived.WalkKit
namespace Go.Proofs.Ytbkdjpialjbhnaa
/-- One step: shifted right by one, and xored, if the bit that went out was set. -/
def cstep (c : Nat) : Nat := c / 2 ^^^ (c % 2 * 2197175160)
theorem mod2_xor (a b : Nat) : (a ^^^ b) % 2 = (a % 2) ^^^ (b % 2) := by
  have := Nat.xor_mod_two_pow (a := a) (b := b) (n := 1)
  simpa using this
theorem div2_xor (a b : Nat) : (a ^^^ b) / 2 = a / 2 ^^^ b / 2 := by
  have := Nat.xor_div_two_pow (a := a) (b := b) (n := 1)
  simpa using this
theorem bit_mul (x y P : Nat) (hx : x < 2) (hy : y < 2) : (x ^^^ y) * P = x * P ^^^ y * P := by
  have h1 : x = 0 ∨ x = 1 := by omega
  have h2 : y = 0 ∨ y = 1 := by omega
  rcases h1 with rfl | rfl <;> rcases h2 with rfl | rfl <;> simp
theorem cstep_xor (a b : Nat) : cstep (a ^^^ b) = cstep a ^^^ cstep b := by
  unfold cstep
  generalize (2197175160 : Nat) = P
  rw [mod2_xor, div2_xor, bit_mul (a % 2) (b % 2) P (Nat.mod_lt _ (by decide)) (Nat.mod_lt _ (by decide))]
  generalize a / 2 = p; generalize b / 2 = q; generalize a % 2 * P = r; generalize b % 2 * P = t
  ac_rfl
theorem bit_cases (c : Nat) : c % 2 = 0 ∨ c % 2 = 1 := by omega
theorem cstep_lt {c : Nat} (h : c < 4294967296) : cstep c < 4294967296 := by
  unfold cstep
  have h2 : c % 2 * 2197175160 < 2 ^ 32 := by
    rcases bit_cases c with h1 | h1
    · rw [h1, Nat.zero_mul]; exact Nat.two_pow_pos 32
    · rw [h1, Nat.one_mul]; exact Nat.lt_of_lt_of_eq (m := 4294967296) (by omega) (by rfl)
  have h3 : c / 2 < 2 ^ 32 := Nat.lt_of_lt_of_eq (m := 4294967296) (by omega) (by rfl)
  exact Nat.lt_of_lt_of_eq (Nat.xor_lt_two_pow h3 h2) (by rfl)
theorem cstep_zero {c : Nat} (h : c < 4294967296) (h0 : cstep c = 0) : c = 0 := by
  unfold cstep at h0
  generalize hP : (2197175160 : Nat) = P at h0
  have h2 : c / 2 = c % 2 * P := by
    have h3 : (c / 2 ^^^ c % 2 * P) ^^^ (c % 2 * P) = 0 ^^^ (c % 2 * P) := by rw [h0]
    rw [Nat.xor_assoc, Nat.xor_self, Nat.xor_zero, Nat.zero_xor] at h3
    exact h3
  rcases bit_cases c with h1 | h1
  · rw [h1, Nat.zero_mul] at h2; omega
  · rw [h1, Nat.one_mul] at h2; omega
/-- n steps. -/
def csteps : Nat → Nat → Nat
  | 0, c => c
  | n + 1, c => csteps n (cstep c)
theorem csteps_succ (n c : Nat) : csteps (n + 1) c = cstep (csteps n c) := by
  induction n generalizing c with
  | zero => rfl
  | succ n ih => exact ih (cstep c)
theorem csteps_add (m n c : Nat) : csteps (m + n) c = csteps n (csteps m c) := by
  induction m generalizing c with
  | zero => rw [Nat.zero_add]; rfl
  | succ m ih => rw [show m + 1 + n = (m + n) + 1 from by omega]; exact ih (cstep c)
theorem csteps_xor (n a b : Nat) : csteps n (a ^^^ b) = csteps n a ^^^ csteps n b := by
  induction n generalizing a b with
  | zero => rfl
  | succ n ih => show csteps n (cstep (a ^^^ b)) = _; rw [cstep_xor, ih]; rfl
theorem csteps_lt (n : Nat) {c : Nat} (h : c < 4294967296) : csteps n c < 4294967296 := by
  induction n generalizing c with
  | zero => exact h
  | succ n ih => exact ih (cstep_lt h)
theorem csteps_zero (n : Nat) {c : Nat} (h : c < 4294967296) (h0 : csteps n c = 0) : c = 0 := by
  induction n generalizing c with
  | zero => exact h0
  | succ n ih => exact cstep_zero h (ih (cstep_lt h) h0)
theorem csteps_of_zero (n : Nat) : csteps n 0 = 0 := by
  induction n with
  | zero => rfl
  | succ n ih => exact ih
theorem cstep_even (q : Nat) : cstep (2 * q) = q := by
  unfold cstep
  rw [show 2 * q / 2 = q from by omega, show 2 * q % 2 = 0 from by omega]
  simp
theorem csteps_shift (n q : Nat) : csteps n (2 ^ n * q) = q := by
  induction n generalizing q with
  | zero => show 2 ^ 0 * q = q; simp
  | succ n ih => show csteps n (cstep (2 ^ (n + 1) * q)) = q; rw [show 2 ^ (n + 1) * q = 2 * (2 ^ n * q) from by rw [Nat.pow_succ]; ac_rfl, cstep_even, ih]
/-- A byte more. -/
def cbyte (c b : Nat) : Nat := csteps 8 (c ^^^ b)
/-- From c on over n bytes. -/
def cfold (B : Nat → Nat) (c : Nat) : Nat → Nat
  | 0 => c
  | n + 1 => cbyte (cfold B c n) (B n)
theorem cfold_lt {B : Nat → Nat} (hB : ∀ i, B i < 256) {c : Nat} (h : c < 4294967296) : ∀ n, cfold B c n < 4294967296
  | 0 => h
  | n + 1 => csteps_lt 8 (Nat.xor_lt_two_pow (n := 32) (cfold_lt hB h n) (Nat.lt_trans (hB n) (by decide)))
theorem cfold_xor (B E : Nat → Nat) (c e : Nat) : ∀ n, cfold (fun i => B i ^^^ E i) (c ^^^ e) n = cfold B c n ^^^ cfold E e n
  | 0 => rfl
  | n + 1 => by
    show cbyte (cfold _ _ n) _ = cbyte _ _ ^^^ cbyte _ _
    rw [cfold_xor B E c e n]
    unfold cbyte
    rw [← csteps_xor]
    congr 1
    show (cfold B c n ^^^ cfold E e n) ^^^ (B n ^^^ E n) = _
    generalize cfold B c n = p; generalize cfold E e n = q; generalize B n = r; generalize E n = t
    ac_rfl
theorem cfold_add (B : Nat → Nat) (c m : Nat) : ∀ n, cfold B c (m + n) = cfold (fun i => B (m + i)) (cfold B c m) n
  | 0 => rfl
  | n + 1 => by show cbyte (cfold B c (m + n)) (B (m + n)) = _; rw [cfold_add B c m n]; rfl
theorem cfold_zero (c : Nat) : ∀ n, cfold (fun _ => 0) c n = csteps (8 * n) c
  | 0 => rfl
  | n + 1 => by
    show csteps 8 (cfold _ c n ^^^ 0) = _
    rw [cfold_zero c n, Nat.xor_zero, Nat.mul_succ, csteps_add]
theorem cfold_congr {B E : Nat → Nat} {c n : Nat} (h : ∀ i, i < n → B i = E i) : cfold B c n = cfold E c n := by
  induction n with
  | zero => rfl
  | succ n ih => show cbyte _ _ = cbyte _ _; rw [ih fun i hi => h i (by omega), h n (by omega)]
theorem split8 (y : Nat) : (y % 2 ^ 8) ^^^ (2 ^ 8 * (y / 2 ^ 8)) = y := by
  apply Nat.eq_of_testBit_eq
  intro i
  rw [Nat.testBit_xor, Nat.testBit_mod_two_pow, Nat.testBit_two_pow_mul, Nat.testBit_div_two_pow]
  by_cases h : i < 8
  · have h2 : ¬ 8 ≤ i := by omega
    simp [h, h2]
  · have h2 : 8 ≤ i := by omega
    simp [h, h2]
theorem step8 (x y : Nat) : csteps 8 (x ^^^ y) = csteps 8 (x ^^^ y % 2 ^ 8) ^^^ y / 2 ^ 8 := by
  have h := csteps_shift 8 (y / 2 ^ 8)
  rw [show csteps 8 (x ^^^ y % 2 ^ 8) ^^^ y / 2 ^ 8 = csteps 8 (x ^^^ y % 2 ^ 8) ^^^ csteps 8 (2 ^ 8 * (y / 2 ^ 8)) from by rw [h], ← csteps_xor, Nat.xor_assoc, split8]
/-- Four bytes of a number from 0 on: as the number through 32 steps. -/
theorem cfold_four (d : Nat) (hd : d < 4294967296) : cfold (fun i => d / 256 ^ i % 256) 0 4 = csteps 32 d := by
  have key : ∀ n, cfold (fun i => d / 256 ^ i % 256) 0 n ^^^ d / 256 ^ n = csteps (8 * n) d := by
    intro n
    induction n with
    | zero => show 0 ^^^ d / 1 = d; simp
    | succ n ih =>
      rw [Nat.mul_succ, csteps_add, ← ih, step8]
      show csteps 8 (cfold _ 0 n ^^^ d / 256 ^ n % 256) ^^^ d / 256 ^ (n + 1) = csteps 8 (_ ^^^ d / 256 ^ n % 256) ^^^ d / 256 ^ n / 256
      rw [Nat.pow_succ, Nat.div_div_eq_div_mul]
  have h := key 4
  rw [show d / 256 ^ 4 = 0 from Nat.div_eq_of_lt hd, Nat.xor_zero] at h
  exact h
/-- Of n bytes four side by side, from j on, are others by d, not 0: the sum is another one. -/
theorem cfold_flip {B E : Nat → Nat} {c d j n : Nat} (hd : d < 4294967296) (h0 : d ≠ 0) (hj : j + 4 ≤ n) (hE : ∀ i, i < n → E i = B i ^^^ (if j ≤ i ∧ i < j + 4 then d / 256 ^ (i - j) % 256 else 0)) : cfold E c n ≠ cfold B c n := by
  intro he
  obtain ⟨D, hD⟩ : ∃ D : Nat → Nat, D = fun i => if j ≤ i ∧ i < j + 4 then d / 256 ^ (i - j) % 256 else 0 := ⟨_, rfl⟩
  have h1 : cfold E c n = cfold B c n ^^^ cfold D 0 n := by
    rw [← cfold_xor, Nat.xor_zero]
    refine cfold_congr fun i hi => ?_
    rw [hE i hi, hD]
  have h2 : cfold D 0 n = 0 := by
    rw [he] at h1
    have := congrArg (cfold B c n ^^^ ·) h1
    simpa [← Nat.xor_assoc] using this.symm
  have h3 : cfold D 0 j = 0 := by
    rw [cfold_congr (E := fun _ => 0) (fun i hi => by rw [hD]; exact if_neg (by omega)), cfold_zero]
    exact csteps_of_zero _
  obtain ⟨m, rfl⟩ : ∃ m, n = j + (4 + m) := ⟨n - j - 4, by omega⟩
  rw [cfold_add, h3, cfold_add] at h2
  rw [cfold_congr (B := fun i => (fun i => D (j + i)) (4 + i)) (E := fun _ => 0) (fun i _ => by show D (j + (4 + i)) = 0; rw [hD]; exact if_neg (by omega)), cfold_zero] at h2
  rw [cfold_congr (B := fun i => D (j + i)) (E := fun i => d / 256 ^ i % 256) (fun i hi => by rw [hD]; show (if _ then _ else _) = _; rw [if_pos (by omega), Nat.add_sub_cancel_left]), cfold_four d hd] at h2
  exact h0 (csteps_zero _ hd (csteps_zero _ (csteps_lt _ hd) h2))
end Go.Proofs.Ytbkdjpialjbhnaa
