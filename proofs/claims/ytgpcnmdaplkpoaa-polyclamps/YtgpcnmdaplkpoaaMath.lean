/-
  The plain numbers of this seat: four words of 64 bits as one number; no Go in this text.
-/
namespace Go.Proofs.Ytgpcnmdaplkpoaa

/-- A word of 64 bits. -/
def Lim (a : Int) : Prop := 0 ≤ a ∧ a < 18446744073709551616
def Lim4 (a b c d : Int) : Prop := Lim a ∧ Lim b ∧ Lim c ∧ Lim d
/-- The number of four words, the lowest first. -/
def val (a b c d : Int) : Int := a + 18446744073709551616 * (b + 18446744073709551616 * (c + 18446744073709551616 * d))
/-- 2^256. -/
def B256 : Int := 115792089237316195423570985008687907853269984665640564039457584007913129639936
/-- One word's sum: s and the carry k, of x, y and the carry c. -/
def Sum1 (x y c s k : Int) : Prop := Lim s ∧ 0 ≤ k ∧ k ≤ 1 ∧ s + 18446744073709551616 * k = x + y + c
/-- One word's difference: s and the borrow k, of x, y and the borrow c. -/
def Dif1 (x y c s k : Int) : Prop := Lim s ∧ 0 ≤ k ∧ k ≤ 1 ∧ s = x - y - c + 18446744073709551616 * k
def AddP (a0 a1 a2 a3 b0 b1 b2 b3 s0 s1 s2 s3 : Int) (c : Bool) : Prop :=
  Lim4 s0 s1 s2 s3 ∧ val s0 s1 s2 s3 + (if c then B256 else 0) = val a0 a1 a2 a3 + val b0 b1 b2 b3
def SubP (a0 a1 a2 a3 b0 b1 b2 b3 s0 s1 s2 s3 : Int) (c : Bool) : Prop :=
  Lim4 s0 s1 s2 s3 ∧ val s0 s1 s2 s3 = val a0 a1 a2 a3 - val b0 b1 b2 b3 + (if c then B256 else 0)

theorem addP_of {a0 a1 a2 a3 b0 b1 b2 b3 s0 s1 s2 s3 k0 k1 k2 k3 : Int} (h0 : Sum1 a0 b0 0 s0 k0) (h1 : Sum1 a1 b1 k0 s1 k1) (h2 : Sum1 a2 b2 k1 s2 k2) (h3 : Sum1 a3 b3 k2 s3 k3) :
    AddP a0 a1 a2 a3 b0 b1 b2 b3 s0 s1 s2 s3 (k3 != 0) := by
  obtain ⟨l0, p0, q0, e0⟩ := h0
  obtain ⟨l1, p1, q1, e1⟩ := h1
  obtain ⟨l2, p2, q2, e2⟩ := h2
  obtain ⟨l3, p3, q3, e3⟩ := h3
  refine ⟨⟨l0, l1, l2, l3⟩, ?_⟩
  have hk : k3 = 0 ∨ k3 = 1 := by omega
  unfold val B256
  rcases hk with rfl | rfl
  · simp; omega
  · simp; omega
theorem subP_of {a0 a1 a2 a3 b0 b1 b2 b3 s0 s1 s2 s3 k0 k1 k2 k3 : Int} (h0 : Dif1 a0 b0 0 s0 k0) (h1 : Dif1 a1 b1 k0 s1 k1) (h2 : Dif1 a2 b2 k1 s2 k2) (h3 : Dif1 a3 b3 k2 s3 k3) :
    SubP a0 a1 a2 a3 b0 b1 b2 b3 s0 s1 s2 s3 (k3 != 0) := by
  obtain ⟨l0, p0, q0, e0⟩ := h0
  obtain ⟨l1, p1, q1, e1⟩ := h1
  obtain ⟨l2, p2, q2, e2⟩ := h2
  obtain ⟨l3, p3, q3, e3⟩ := h3
  refine ⟨⟨l0, l1, l2, l3⟩, ?_⟩
  have hk : k3 = 0 ∨ k3 = 1 := by omega
  unfold val B256
  rcases hk with rfl | rfl
  · simp; omega
  · simp; omega
theorem val_inj {a0 a1 a2 a3 b0 b1 b2 b3 : Int} (ha : Lim4 a0 a1 a2 a3) (hb : Lim4 b0 b1 b2 b3) (h : val a0 a1 a2 a3 = val b0 b1 b2 b3) : a0 = b0 ∧ a1 = b1 ∧ a2 = b2 ∧ a3 = b3 := by
  unfold Lim4 Lim at ha hb; unfold val at h
  omega
theorem val_bd {a0 a1 a2 a3 : Int} (ha : Lim4 a0 a1 a2 a3) : 0 ≤ val a0 a1 a2 a3 ∧ val a0 a1 a2 a3 < B256 := by
  unfold Lim4 Lim at ha; unfold val B256
  omega
end Go.Proofs.Ytgpcnmdaplkpoaa
