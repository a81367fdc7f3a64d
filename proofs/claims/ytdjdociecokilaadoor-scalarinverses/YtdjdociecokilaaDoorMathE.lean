/-
  Numbers in words of 32 bits, and the product that two loops make of them. No Go in this text.
-/
import Derived.Test.YtdjdociecokilaaDoorMathC
namespace Go.Proofs.YtdjdociecokilaaDoor
/-- The number of the first n words of 32 bits, the lowest first. -/
def ev (P : Nat → Int) : Nat → Int
  | 0 => 0
  | n + 1 => ev P n + P n * 4294967296 ^ n
/-- A word of 32 bits. -/
def Half (x : Int) : Prop := 0 ≤ x ∧ x < 4294967296
theorem ev_congr {P Q : Nat → Int} {n : Nat} (h : ∀ t, t < n → P t = Q t) : ev P n = ev Q n := by
  induction n with
  | zero => rfl
  | succ n ih => simp only [ev]; rw [ih (fun t ht => h t (by omega)), h n (by omega)]
theorem ev_set (P : Nat → Int) (k : Nat) (v : Int) (n : Nat) (h : k < n) : ev (fun t => if t = k then v else P t) n = ev P n + (v - P k) * 4294967296 ^ k := by
  induction n with
  | zero => omega
  | succ n ih =>
    simp only [ev]
    by_cases e : n = k
    · subst e
      have : ev (fun t => if t = n then v else P t) n = ev P n := ev_congr (fun t ht => by simp [show t ≠ n from by omega])
      rw [this]
      simp only [if_true]
      generalize (4294967296 : Int) ^ n = q
      grind
    · rw [ih (by omega)]
      simp only [e, if_false]
      generalize (4294967296 : Int) ^ n = q
      generalize (4294967296 : Int) ^ k = r
      grind
/-- Within row i, behind j rounds: the sixteen words P and the carry C; P0: the words as the row began. -/
def InP (X Y P0 : Nat → Int) (i j : Nat) (P : Nat → Int) (C : Int) : Prop :=
  (∀ t, Half (P t)) ∧ Half C ∧ (∀ t, i + 8 ≤ t → P t = 0) ∧ ev P 16 + C * 4294967296 ^ (i + j) = ev P0 16 + X i * ev Y j * 4294967296 ^ i
/-- Behind i rows. -/
def OutP (X Y : Nat → Int) (i : Nat) (P : Nat → Int) : Prop :=
  (∀ t, Half (P t)) ∧ (∀ t, i + 8 ≤ t → P t = 0) ∧ ev P 16 = ev X i * ev Y 8
theorem InP.start {X Y P : Nat → Int} {i : Nat} (h : OutP X Y i P) : InP X Y P i 0 P 0 := by
  refine ⟨h.1, ⟨by omega, by omega⟩, h.2.1, ?_⟩
  simp [ev]
theorem InP.step {X Y P0 P : Nat → Int} {C : Int} {i j : Nat} (h : InP X Y P0 i j P C) (hi : i < 8) (hj : j < 8) {lo hi' : Int} (hl : Half lo) (hh : Half hi') (he : lo + 4294967296 * hi' = P (i + j) + X i * Y j + C) :
    InP X Y P0 i (j + 1) (fun t => if t = i + j then lo else P t) hi' := by
  obtain ⟨h1, _, h3, h4⟩ := h
  refine ⟨fun t => ?_, hh, fun t ht => ?_, ?_⟩
  · show Half (if t = i + j then lo else P t)
    split
    · exact hl
    · exact h1 t
  · show (if t = i + j then lo else P t) = 0
    rw [if_neg (by omega)]
    exact h3 t ht
  · rw [ev_set P (i + j) lo 16 (by omega)]
    rw [show ev Y (j + 1) = ev Y j + Y j * 4294967296 ^ j from rfl]
    have e1 : (4294967296 : Int) ^ (i + (j + 1)) = 4294967296 ^ (i + j) * 4294967296 := by rw [← Nat.add_assoc]; exact Int.pow_succ _ _
    rw [e1, show (4294967296 : Int) ^ (i + j) = 4294967296 ^ i * 4294967296 ^ j from Int.pow_add _ _ _]
    rw [show (4294967296 : Int) ^ (i + j) = 4294967296 ^ i * 4294967296 ^ j from Int.pow_add _ _ _] at h4
    generalize (4294967296 : Int) ^ i = q at *
    generalize (4294967296 : Int) ^ j = r at *
    generalize ev P 16 = u at *
    generalize ev P0 16 = u0 at *
    generalize ev Y j = y at *
    generalize P (i + j) = p at *
    generalize X i = x at *
    generalize Y j = z at *
    have e2 : lo = p + x * z + C - 4294967296 * hi' := by omega
    subst e2
    grind
theorem OutP.step {X Y P0 P : Nat → Int} {C : Int} {i : Nat} (h0 : OutP X Y i P0) (h : InP X Y P0 i 8 P C) (hi : i < 8) : OutP X Y (i + 1) (fun t => if t = i + 8 then C else P t) := by
  obtain ⟨h1, h2, h3, h4⟩ := h
  refine ⟨fun t => ?_, fun t ht => ?_, ?_⟩
  · show Half (if t = i + 8 then C else P t)
    split
    · exact h2
    · exact h1 t
  · show (if t = i + 8 then C else P t) = 0
    rw [if_neg (by omega)]
    exact h3 t (by omega)
  · rw [ev_set P (i + 8) C 16 (by omega), h3 (i + 8) (by omega)]
    have h5 := h0.2.2
    rw [show ev X (i + 1) = ev X i + X i * 4294967296 ^ i from rfl]
    rw [h5] at h4
    generalize (4294967296 : Int) ^ i = q at *
    generalize (4294967296 : Int) ^ (i + 8) = r at *
    generalize ev P 16 = u at *
    grind
theorem OutP.zero (X Y : Nat → Int) : OutP X Y 0 (fun _ => 0) := by
  refine ⟨fun _ => (show Half 0 from ⟨by omega, by omega⟩), fun _ _ => rfl, ?_⟩
  simp [ev]
/-- One round's word: no sum passes 2^64. -/
theorem round_ok {p x y c : Int} (hp : Half p) (hx : Half x) (hy : Half y) (hc : Half c) : 0 ≤ x * y ∧ x * y ≤ 18446744065119617025 ∧ 0 ≤ p + x * y + c ∧ p + x * y + c < 18446744073709551616 := by
  unfold Half at *
  have h := mul_bd x y hx.1 (by omega) hy.1 (by omega)
  omega
end Go.Proofs.YtdjdociecokilaaDoor
