/-
  Products of numbers of some words of 32 bits, as sandglassref07.mul makes them; no Go in this text.
-/
namespace Go.Proofs.Ytdpplmfgbglkhaa
/-- 2^32. -/
def BW : Nat := 4294967296
/-- The number of n words, the lowest first. -/
def nvf (P : Nat → Nat) : Nat → Nat
  | 0 => 0
  | n + 1 => nvf P n + P n * BW ^ n
def put (P : Nat → Nat) (i v : Nat) : Nat → Nat := fun k => if k = i then v else P k
theorem put_same (P : Nat → Nat) (i v : Nat) : put P i v i = v := if_pos rfl
theorem put_other (P : Nat → Nat) {i k : Nat} (v : Nat) (h : k ≠ i) : put P i v k = P k := if_neg h
theorem nvf_congr {P Q : Nat → Nat} {n : Nat} (h : ∀ k, k < n → P k = Q k) : nvf P n = nvf Q n := by
  induction n with
  | zero => rfl
  | succ n ih => unfold nvf; rw [ih (fun k hk => h k (by omega)), h n (by omega)]
theorem nvf_put (P : Nat → Nat) (i v n : Nat) (h : i < n) : nvf (put P i v) n + P i * BW ^ i = nvf P n + v * BW ^ i := by
  induction n with
  | zero => omega
  | succ n ih =>
    unfold nvf
    by_cases e : i = n
    · subst e
      rw [put_same, nvf_congr (P := put P i v) (Q := P) (fun k hk => put_other P v (by omega))]
      omega
    · have := ih (by omega)
      rw [put_other P v (show n ≠ i by omega)]
      omega
/-- What the inner loop keeps. -/
def MIn (A B P0 P : Nat → Nat) (n i j c : Nat) : Prop := nvf P n + c * BW ^ (i + j) = nvf P0 n + A i * nvf B j * BW ^ i ∧ (∀ k, P k < BW) ∧ c < BW ∧ ∀ k, i + j ≤ k → P k = P0 k
theorem MIn.start {A B P0 : Nat → Nat} {n i : Nat} (h : ∀ k, P0 k < BW) : MIn A B P0 P0 n i 0 0 := ⟨by simp [nvf], h, by decide, fun _ _ => rfl⟩
theorem prod_lt {x y p c : Nat} (hx : x < BW) (hy : y < BW) (hp : p < BW) (hc : c < BW) : p + x * y + c < 18446744073709551616 ∧ (p + x * y + c) / BW < BW := by
  have h1 : x * y ≤ 4294967295 * 4294967295 := Nat.mul_le_mul (by unfold BW at hx; omega) (by unfold BW at hy; omega)
  unfold BW at *
  omega
theorem MIn.step {A B P0 P : Nat → Nat} {n i j c : Nat} (h : MIn A B P0 P n i j c) (hij : i + j < n) (hA : A i < BW) (hB : B j < BW) :
    MIn A B P0 (put P (i + j) ((P (i + j) + A i * B j + c) % BW)) n i (j + 1) ((P (i + j) + A i * B j + c) / BW) := by
  obtain ⟨h1, h2, h3, h4⟩ := h
  have hb := prod_lt hA hB (h2 (i + j)) h3
  refine ⟨?_, fun k => ?_, hb.2, fun k hk => ?_⟩
  · have e1 := nvf_put P (i + j) ((P (i + j) + A i * B j + c) % BW) n hij
    have e2 := Nat.div_add_mod (P (i + j) + A i * B j + c) BW
    generalize (P (i + j) + A i * B j + c) / BW = q at *
    generalize (P (i + j) + A i * B j + c) % BW = r at *
    rw [show i + (j + 1) = (i + j) + 1 from by omega, Nat.pow_succ, show nvf B (j + 1) = nvf B j + B j * BW ^ j from rfl]
    have e3 : (BW * q + r) * BW ^ (i + j) = (P (i + j) + A i * B j + c) * BW ^ (i + j) := by rw [e2]
    have e4 : A i * (nvf B j + B j * BW ^ j) * BW ^ i = A i * nvf B j * BW ^ i + A i * B j * BW ^ (i + j) := by
      rw [Nat.mul_add, Nat.add_mul, Nat.pow_add]
      congr 1
      rw [← Nat.mul_assoc, Nat.mul_assoc (A i * B j), Nat.mul_comm (BW ^ j)]
    rw [e4]
    rw [Nat.add_mul, Nat.add_mul, Nat.add_mul] at e3
    have e5 : q * (BW ^ (i + j) * BW) = BW * q * BW ^ (i + j) := by
      rw [Nat.mul_comm (BW ^ (i + j)) BW, ← Nat.mul_assoc, Nat.mul_comm q BW]
    rw [e5]
    omega
  · by_cases e : k = i + j
    · subst e; rw [put_same]; exact Nat.mod_lt _ (by decide)
    · rw [put_other _ _ e]; exact h2 k
  · rw [put_other _ _ (by omega)]
    exact h4 k (by omega)
/-- What the outer loop keeps. -/
def MOut (A B P : Nat → Nat) (n lb i : Nat) : Prop := nvf P n = nvf A i * nvf B lb ∧ (∀ k, P k < BW) ∧ ∀ k, i + lb ≤ k → P k = 0
theorem MOut.start {A B : Nat → Nat} {n lb : Nat} : MOut A B (fun _ => 0) n lb 0 := by
  refine ⟨?_, fun _ => (by decide : 0 < BW), fun _ _ => rfl⟩
  have : ∀ n, nvf (fun _ => 0) n = 0 := fun n => by induction n with
    | zero => rfl
    | succ n ih => unfold nvf; rw [ih]; omega
  rw [this]; simp [nvf]
theorem MOut.step {A B P0 P : Nat → Nat} {n lb i c : Nat} (h : MOut A B P0 n lb i) (k : MIn A B P0 P n i lb c) (hi : i + lb < n) : MOut A B (put P (i + lb) c) n lb (i + 1) := by
  obtain ⟨h1, h2, h3⟩ := h
  obtain ⟨k1, k2, k3, k4⟩ := k
  have hz : P (i + lb) = 0 := by rw [k4 _ (by omega), h3 _ (by omega)]
  refine ⟨?_, fun t => ?_, fun t ht => ?_⟩
  · have e1 := nvf_put P (i + lb) c n hi
    rw [hz] at e1
    rw [show nvf A (i + 1) = nvf A i + A i * BW ^ i from rfl, Nat.add_mul, ← h1]
    have : A i * BW ^ i * nvf B lb = A i * nvf B lb * BW ^ i := by rw [Nat.mul_assoc, Nat.mul_comm (BW ^ i), ← Nat.mul_assoc]
    omega
  · by_cases e : t = i + lb
    · subst e; rw [put_same]; exact k3
    · rw [put_other _ _ e]; exact k2 t
  · rw [put_other _ _ (by omega), k4 _ (by omega), h3 _ (by omega)]
end Go.Proofs.Ytdpplmfgbglkhaa
