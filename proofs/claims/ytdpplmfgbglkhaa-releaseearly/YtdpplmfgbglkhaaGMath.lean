/-
  The document's gate of time: its times, a reading, which epochs are open. No function of the program is named here.
-/
namespace Go.Proofs.Ytdpplmfgbglkhaa
def rB (b : Int) : Int := min (max b 0) 1073741824
def rE (e : Int) : Int := min (max e 1) 1048576
def rN (n : Int) : Int := min (max n 0) 1099511627776
def rT (B E e : Int) : Int := if e < 0 ∨ 63 < e then -1 else B + e * E
def rM (M n : Int) : Int := max M (rN n)
def rO (B E M e : Int) : Bool := decide (0 ≤ rT B E e) && decide (rT B E e ≤ M)
/-- A gate's numbers, as they may be. -/
structure GOk (B E N M : Int) : Prop where
  b0 : 0 ≤ B
  b1 : B ≤ 1073741824
  e0 : 1 ≤ E
  e1 : E ≤ 1048576
  n0 : 0 ≤ N
  n1 : N ≤ 1099511627776
  m0 : -1 ≤ M
  m1 : M ≤ 1099511627776
theorem rN_le (n : Int) : 0 ≤ rN n ∧ rN n ≤ 1099511627776 := by unfold rN; omega
theorem GOk.new (b e : Int) : GOk (rB b) (rE e) 0 (-1) := by constructor <;> first | decide | (unfold rB; omega) | (unfold rE; omega)
theorem GOk.tick {B E N M : Int} (h : GOk B E N M) (n : Int) : GOk B E (rN n) (rM M n) := by
  obtain ⟨b0, b1, e0, e1, n0, n1, m0, m1⟩ := h
  have := rN_le n
  constructor <;> first | assumption | omega | (unfold rM; omega)
theorem GOk.crash {B E N M : Int} (h : GOk B E N M) : GOk B E 0 M := by
  obtain ⟨b0, b1, e0, e1, n0, n1, m0, m1⟩ := h
  constructor <;> first | assumption | decide
theorem rT_in {B E e : Int} (h0 : ¬ e < 0) (h1 : ¬ 63 < e) : rT B E e = B + e * E := by unfold rT; rw [if_neg (by omega)]
theorem rT_out {B E e : Int} (h : e < 0 ∨ 63 < e) : rT B E e = -1 := by unfold rT; rw [if_pos h]
theorem rT_nums {B E N M e : Int} (h : GOk B E N M) (h0 : ¬ e < 0) (h1 : ¬ 63 < e) : 0 ≤ e * E ∧ e * E ≤ 66060288 := by
  obtain ⟨b0, b1, e0, e1, n0, n1, m0, m1⟩ := h
  have hk : e = ((e.toNat : Nat) : Int) := by omega
  have hE : E = ((E.toNat : Nat) : Int) := by omega
  have k1 : e.toNat ≤ 63 := by omega
  have k2 : E.toNat ≤ 1048576 := by omega
  have h := Nat.mul_le_mul k1 k2
  rw [hk, hE, ← Int.natCast_mul]
  exact ⟨Int.natCast_nonneg _, by omega⟩
theorem rT_some {B E N M e : Int} (h : GOk B E N M) : decide (0 ≤ rT B E e) = decide (0 ≤ e ∧ e ≤ 63) := by
  by_cases q : e < 0 ∨ 63 < e
  · rw [rT_out q, decide_eq_false (by omega), decide_eq_false (by omega)]
  · rw [rT_in (by omega) (by omega)]
    have := rT_nums h (e := e) (by omega) (by omega)
    have := h.b0
    rw [decide_eq_true (by omega), decide_eq_true (by omega)]
/-- A later reading opens no less. -/
theorem rO_tick {B E M e : Int} (n : Int) (h : rO B E M e = true) : rO B E (rM M n) e = true := by
  unfold rO at *
  simp only [Bool.and_eq_true, decide_eq_true_eq] at *
  unfold rM
  omega
/-- Behind a reading an epoch is open just if it was, or the reading is its time or more. -/
theorem rO_step (B E M e n : Int) : rO B E (rM M n) e = (rO B E M e || (decide (0 ≤ rT B E e) && decide (rT B E e ≤ rN n))) := by
  unfold rO rM
  by_cases h : 0 ≤ rT B E e
  · by_cases h1 : rT B E e ≤ M
    · rw [decide_eq_true h, decide_eq_true h1, decide_eq_true (by omega)]; rfl
    · by_cases h2 : rT B E e ≤ rN n
      · rw [decide_eq_true h, decide_eq_false h1, decide_eq_true h2, decide_eq_true (by omega)]; rfl
      · rw [decide_eq_true h, decide_eq_false h1, decide_eq_false h2, decide_eq_false (by omega)]; rfl
  · rw [decide_eq_false h]; simp
theorem rO_new (B E e : Int) : rO B E (-1) e = false := by
  unfold rO
  by_cases h : 0 ≤ rT B E e
  · rw [decide_eq_false (p := rT B E e ≤ -1) (by omega)]; simp
  · rw [decide_eq_false h]; simp
theorem rT_step {B E e : Int} (h0 : 1 ≤ e) (h1 : e ≤ 63) : rT B E e - rT B E (e - 1) = E := by
  rw [rT_in (by omega) (by omega), rT_in (by omega) (by omega), Int.sub_mul]
  omega
theorem rO_order {B E N M e : Int} (h : GOk B E N M) (h0 : 1 ≤ e) (h1 : e ≤ 63) (ho : rO B E M e = true) : rO B E M (e - 1) = true := by
  have hs := rT_step (B := B) (E := E) h0 h1
  have h2 := rT_nums h (e := e - 1) (by omega) (by omega)
  have h3 : rT B E (e - 1) = B + (e - 1) * E := rT_in (by omega) (by omega)
  have := h.b0
  have := h.e0
  unfold rO at *
  simp only [Bool.and_eq_true, decide_eq_true_eq] at *
  omega
/-- The greatest reading, and the last one, behind j readings. -/
def rMs (M : Int) (f : Nat → Int) : Nat → Int
  | 0 => M
  | j + 1 => rM (rMs M f j) (f j)
def rNs (N : Int) (f : Nat → Int) : Nat → Int
  | 0 => N
  | j + 1 => rN (f j)
theorem rO_stays (B E M e : Int) (f : Nat → Int) (h : rO B E M e = true) (j : Nat) : rO B E (rMs M f j) e = true := by
  induction j with
  | zero => exact h
  | succ j ih => exact rO_tick _ ih
/-- A reading below 0 and above -1000 is a crash. -/
def isC (x : Int) : Bool := decide (x < 0) && decide (-1000 < x)
def pMs (f : Nat → Int) : Nat → Int
  | 0 => -1
  | j + 1 => if isC (f j) then pMs f j else rM (pMs f j) (f j)
def pNs (f : Nat → Int) : Nat → Int
  | 0 => 0
  | j + 1 => if isC (f j) then 0 else rN (f j)
/-- The numbers of a round of ReleaseOrder. -/
theorem ord_nums {B E N M : Int} {i : Nat} (h : GOk B E N M) (hi : i < 63) : ∃ t0 t1 : Int, rT B E (i : Int) = t0 ∧ rT B E ((i : Int) + 1) = t1 ∧ rT B E 0 = B ∧ rT B E 1 = B + E ∧ t1 = t0 + E ∧ 0 ≤ t0 ∧ t0 ≤ 1200000000 ∧
    (rO B E M ((i : Int) + 1) = true → rO B E M (i : Int) = true) := by
  have hs := rT_step (B := B) (E := E) (e := (i : Int) + 1) (by omega) (by omega)
  rw [Int.add_sub_cancel] at hs
  have h2 := rT_nums h (e := (i : Int)) (by omega) (by omega)
  have h3 : rT B E (i : Int) = B + (i : Int) * E := rT_in (by omega) (by omega)
  have h4 := rO_order (e := (i : Int) + 1) h (by omega) (by omega)
  rw [Int.add_sub_cancel] at h4
  have := h.b0
  have := h.b1
  refine ⟨_, _, rfl, rfl, ?_, ?_, by omega, by omega, by omega, h4⟩
  · rw [rT_in (by decide) (by decide)]; omega
  · rw [rT_in (by decide) (by decide)]; omega
end Go.Proofs.Ytdpplmfgbglkhaa
