/-
  Numbers of five limbs of 26 bits, as whole numbers: carrying, products modulo 2^130 - 5. No Go in this text.
-/
import Derived.Test.YtgpcnmdaplkpoaaMulMath
namespace Go.Proofs.Ytgpcnmdaplkpoaa
/-- The value of five limbs of 26 bits. -/
def v5 (n : Nat → Nat) : Nat := n 0 + n 1 * 67108864 + n 2 * 4503599627370496 + n 3 * 302231454903657293676544 + n 4 * 20282409603651670423947251286016
/-- What goes over into limb i. -/
def cr (n : Nat → Nat) : Nat → Nat
  | 0 => 0
  | i + 1 => (n i + cr n i) / 67108864
/-- The limbs behind i steps of carrying. -/
def cl (n : Nat → Nat) (i j : Nat) : Nat := if j < i then (n j + cr n j) % 67108864 else n j
theorem cl_zero (n : Nat → Nat) : cl n 0 = n := by funext j; simp [cl]
theorem cl_step (n : Nat → Nat) (i : Nat) : put (cl n i) i ((n i + cr n i) % 67108864) = cl n (i + 1) := by
  funext j
  unfold put cl
  by_cases h : j = i
  · subst h; simp
  · rw [if_neg h]
    by_cases h2 : j < i
    · rw [if_pos h2, if_pos (by omega)]
    · rw [if_neg h2, if_neg (by omega)]
theorem cl_lt (n : Nat → Nat) (j : Nat) (h : j < 5) : cl n 5 j < 67108864 := by
  unfold cl; rw [if_pos h]; exact Nat.mod_lt _ (by decide)
theorem cl_val (n : Nat → Nat) : v5 (cl n 5) + cr n 5 * 1361129467683753853853498429727072845824 = v5 n := by
  simp only [v5, cl, cr, Nat.reduceLT, if_true, Nat.zero_lt_succ]
  omega
theorem v5_lt {n : Nat → Nat} (h : ∀ j, j < 5 → n j < 67108864) : v5 n < 1361129467683753853853498429727072845824 := by
  have h0 := h 0 (by decide); have h1 := h 1 (by decide); have h2 := h 2 (by decide); have h3 := h 3 (by decide); have h4 := h 4 (by decide)
  unfold v5; omega
theorem cr_val (n : Nat → Nat) : cr n 5 = v5 n / 1361129467683753853853498429727072845824 := by
  have h1 := cl_val n
  have h2 := v5_lt (cl_lt n)
  omega
theorem cl_mod (n : Nat → Nat) : v5 (cl n 5) = v5 n % 1361129467683753853853498429727072845824 := by
  have h1 := cl_val n
  have h2 := v5_lt (cl_lt n)
  omega
/-- Round t of a product: where, and what. -/
def tpos (t : Nat) : Nat := (t / 5 + t % 5) % 5
def tval (a b : Nat → Nat) (t : Nat) : Nat := if t / 5 + t % 5 < 5 then a (t / 5) * b (t % 5) else a (t / 5) * b (t % 5) * 5
def tm (a b : Nat → Nat) : Nat → Nat → Nat
  | 0 => fun _ => 0
  | t + 1 => put (tm a b t) (tpos t) (tm a b t (tpos t) + tval a b t)
theorem tm25 (a b : Nat → Nat) : v5 (tm a b 25) + 1361129467683753853853498429727072845819 * (a 1 * b 4 + a 2 * b 3 + a 3 * b 2 + a 4 * b 1 + (a 2 * b 4 + a 3 * b 3 + a 4 * b 2) * 67108864 + (a 3 * b 4 + a 4 * b 3) * 4503599627370496 + a 4 * b 4 * 302231454903657293676544) = v5 a * v5 b := by
  simp only [v5, tm, put, tpos, tval, Nat.reduceDiv, Nat.reduceMod, Nat.reduceAdd, Nat.reduceLT, Nat.reduceEqDiff, if_true, if_false, Nat.succ_ne_self]
  grind
theorem tm_mod (a b : Nat → Nat) : v5 (tm a b 25) % 1361129467683753853853498429727072845819 = v5 a * v5 b % 1361129467683753853853498429727072845819 := by
  rw [← tm25 a b, Nat.add_mul_mod_self_left]
theorem tval_le {a b : Nat → Nat} {A B : Nat} (ha : ∀ j, j < 5 → a j ≤ A) (hb : ∀ j, j < 5 → b j ≤ B) (t : Nat) (ht : t < 25) : tval a b t ≤ A * B * 5 := by
  unfold tval
  have h := Nat.mul_le_mul (ha (t / 5) (by omega)) (hb (t % 5) (by omega))
  split <;> omega
theorem tm_le {a b : Nat → Nat} {A B : Nat} (ha : ∀ j, j < 5 → a j ≤ A) (hb : ∀ j, j < 5 → b j ≤ B) (t j : Nat) (ht : t ≤ 25) : tm a b t j ≤ t * (A * B * 5) := by
  induction t generalizing j with
  | zero => simp [tm]
  | succ t ih =>
    have h1 := ih (tpos t) (by omega)
    have h2 := ih j (by omega)
    have h3 := tval_le ha hb t (by omega)
    rw [Nat.succ_mul]
    simp only [tm, put]
    split <;> omega
theorem tm_step (a b : Nat → Nat) (i k : Nat) (_hi : i < 5) (hk : k < 5) : tm a b (5 * i + k + 1) = if i + k < 5 then put (tm a b (5 * i + k)) (i + k) (tm a b (5 * i + k) (i + k) + a i * b k) else put (tm a b (5 * i + k)) (i + k - 5) (tm a b (5 * i + k) (i + k - 5) + a i * b k * 5) := by
  have h1 : (5 * i + k) / 5 = i := by omega
  have h2 : (5 * i + k) % 5 = k := by omega
  show put _ _ _ = _
  unfold tpos tval
  rw [h1, h2]
  split
  · rw [show (i + k) % 5 = i + k by omega]
  · rw [show (i + k) % 5 = i + k - 5 by omega]
/-- One turn of what goes out beyond 2^130. -/
def rnd (n : Nat → Nat) : Nat → Nat := put (cl n 5) 0 (cl n 5 0 + cr n 5 * 5)
theorem rnd_val (n : Nat → Nat) : v5 (rnd n) + cr n 5 * 1361129467683753853853498429727072845819 = v5 n := by
  have h := cl_val n
  rw [← h]
  simp only [v5, rnd, put, Nat.reduceEqDiff, if_true, if_false, Nat.succ_ne_self]
  omega
theorem rnd_mod (n : Nat → Nat) : v5 (rnd n) % 1361129467683753853853498429727072845819 = v5 n % 1361129467683753853853498429727072845819 := by
  rw [← rnd_val n, Nat.add_mul_mod_self_right]
def tmR (a b : Nat → Nat) : Nat → Nat := rnd (rnd (tm a b 25))
theorem tmR_mod (a b : Nat → Nat) : v5 (tmR a b) % 1361129467683753853853498429727072845819 = v5 a * v5 b % 1361129467683753853853498429727072845819 := by
  unfold tmR; rw [rnd_mod, rnd_mod, tm_mod]
theorem cr_le {n : Nat → Nat} {M : Nat} (h : ∀ j, j < 5 → n j ≤ 67108863 * M) (i : Nat) (hi : i ≤ 5) : cr n i ≤ M := by
  induction i with
  | zero => exact Nat.zero_le _
  | succ i ih =>
    have h1 := h i (by omega)
    have h2 := ih (by omega)
    unfold cr; omega
theorem rnd_le {n : Nat → Nat} {M : Nat} (h : ∀ j, j < 5 → n j ≤ 67108863 * M) (j : Nat) (hj : j < 5) : rnd n j ≤ 67108863 + (if j = 0 then 5 * M else 0) := by
  have h1 := cl_lt n j hj
  have h2 := cr_le h 5 (Nat.le_refl _)
  unfold rnd put
  split
  · rename_i e; subst e; omega
  · omega
/-- Limbs as a product answers them. -/
def Sm (n : Nat → Nat) : Prop := n 0 ≤ 67108868 ∧ ∀ j, 0 < j → j < 5 → n j ≤ 67108863
theorem Sm.le {n : Nat → Nat} (h : Sm n) (j : Nat) (hj : j < 5) : n j ≤ 67108868 := by
  rcases Nat.eq_zero_or_pos j with rfl | h0
  · exact h.1
  · have := h.2 j h0 hj; omega
theorem Sm.val {n : Nat → Nat} (h : Sm n) : v5 n < 1361129467683753853853498429727072845829 := by
  have h0 := h.1; have h1 := h.2 1 (by decide) (by decide); have h2 := h.2 2 (by decide) (by decide); have h3 := h.2 3 (by decide) (by decide); have h4 := h.2 4 (by decide) (by decide)
  unfold v5; omega
theorem cr_small {n : Nat → Nat} (h0 : n 0 < 4503599627370496) (h : ∀ j, 0 < j → j < 5 → n j ≤ 67108863) : cr n 5 ≤ 1 := by
  have h1 := h 1 (by decide) (by decide); have h2 := h 2 (by decide) (by decide); have h3 := h 3 (by decide) (by decide); have h4 := h 4 (by decide) (by decide)
  have e1 : cr n 1 < 67108864 := by simp only [cr]; omega
  have e2 : cr n 2 ≤ 1 := by show (n 1 + cr n 1) / 67108864 ≤ 1; omega
  have e3 : cr n 3 ≤ 1 := by show (n 2 + cr n 2) / 67108864 ≤ 1; omega
  have e4 : cr n 4 ≤ 1 := by show (n 3 + cr n 3) / 67108864 ≤ 1; omega
  show (n 4 + cr n 4) / 67108864 ≤ 1; omega
theorem rnd_small {n : Nat → Nat} (h0 : n 0 < 4503599627370496) (h : ∀ j, 0 < j → j < 5 → n j ≤ 67108863) : Sm (rnd n) := by
  have hc := cr_small h0 h
  have h1 := cl_lt n 0 (by decide)
  refine ⟨?_, fun j hj0 hj => ?_⟩
  · unfold rnd; rw [put_same]; omega
  · have := cl_lt n j hj
    unfold rnd; rw [put_other _ _ (by omega)]; omega
theorem tmR_small {a b : Nat → Nat} (ha : ∀ j, j < 5 → a j ≤ 268435456) (hb : ∀ j, j < 5 → b j ≤ 67108864) : Sm (tmR a b) := by
  have h : ∀ j, j < 5 → tm a b 25 j ≤ 67108863 * 33554433000 := fun j _ => by have := tm_le ha hb 25 j (Nat.le_refl _); omega
  refine rnd_small ?_ fun j h0 hj => ?_
  · have := rnd_le h 0 (by decide); rw [if_pos rfl] at this; omega
  · have := rnd_le h j hj; rw [if_neg (by omega)] at this; omega
end Go.Proofs.Ytgpcnmdaplkpoaa
