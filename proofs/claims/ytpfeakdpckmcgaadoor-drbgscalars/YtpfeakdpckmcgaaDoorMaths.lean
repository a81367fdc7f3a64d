/-
  The plain numbers of this seat: four words of 64 bits as one number; no Go in this text.
  Products of two words, as math/bits.Mul64 makes them, and as limbs.mulAdd puts two more words in.
  What limbs.Mul's loops come to: the eight words are the product.
-/
import Derived.WalkKit
namespace Go.Proofs.YtpfeakdpckmcgaaDoor

/-- A word of 64 bits. -/
def Lim (a : Int) : Prop := 0 ≤ a ∧ a < 18446744073709551616
def Lim4 (a b c d : Int) : Prop := Lim a ∧ Lim b ∧ Lim c ∧ Lim d
/-- The number of four words, the lowest first. -/
def val (a b c d : Int) : Int := a + 18446744073709551616 * (b + 18446744073709551616 * (c + 18446744073709551616 * d))
/-- 2^256. -/
def B256 : Int := 115792089237316195423570985008687907853269984665640564039457584007913129639936
/-- One word's sum: s and the carry k, of x, y and the carry c. -/
def Sum1 (x y c s k : Int) : Prop := Lim s ∧ 0 ≤ k ∧ k ≤ 1 ∧ s + 18446744073709551616 * k = x + y + c
/-- One word's difference: s and the borrow k, of x, y and the borrow c. -/
def Dif1 (x y c s k : Int) : Prop := Lim s ∧ 0 ≤ k ∧ k ≤ 1 ∧ s = x - y - c + 18446744073709551616 * k
def AddP (a0 a1 a2 a3 b0 b1 b2 b3 s0 s1 s2 s3 : Int) (c : Bool) : Prop :=
  Lim4 s0 s1 s2 s3 ∧ val s0 s1 s2 s3 + (if c then B256 else 0) = val a0 a1 a2 a3 + val b0 b1 b2 b3
def SubP (a0 a1 a2 a3 b0 b1 b2 b3 s0 s1 s2 s3 : Int) (c : Bool) : Prop :=
  Lim4 s0 s1 s2 s3 ∧ val s0 s1 s2 s3 = val a0 a1 a2 a3 - val b0 b1 b2 b3 + (if c then B256 else 0)

theorem addP_of {a0 a1 a2 a3 b0 b1 b2 b3 s0 s1 s2 s3 k0 k1 k2 k3 : Int} (h0 : Sum1 a0 b0 0 s0 k0) (h1 : Sum1 a1 b1 k0 s1 k1) (h2 : Sum1 a2 b2 k1 s2 k2) (h3 : Sum1 a3 b3 k2 s3 k3) :
    AddP a0 a1 a2 a3 b0 b1 b2 b3 s0 s1 s2 s3 (k3 != 0) := by
  obtain ⟨l0, p0, q0, e0⟩ := h0
  obtain ⟨l1, p1, q1, e1⟩ := h1
  obtain ⟨l2, p2, q2, e2⟩ := h2
  obtain ⟨l3, p3, q3, e3⟩ := h3
  refine ⟨⟨l0, l1, l2, l3⟩, ?_⟩
  have hk : k3 = 0 ∨ k3 = 1 := by omega
  unfold val B256
  rcases hk with rfl | rfl
  · simp; omega
  · simp; omega
theorem subP_of {a0 a1 a2 a3 b0 b1 b2 b3 s0 s1 s2 s3 k0 k1 k2 k3 : Int} (h0 : Dif1 a0 b0 0 s0 k0) (h1 : Dif1 a1 b1 k0 s1 k1) (h2 : Dif1 a2 b2 k1 s2 k2) (h3 : Dif1 a3 b3 k2 s3 k3) :
    SubP a0 a1 a2 a3 b0 b1 b2 b3 s0 s1 s2 s3 (k3 != 0) := by
  obtain ⟨l0, p0, q0, e0⟩ := h0
  obtain ⟨l1, p1, q1, e1⟩ := h1
  obtain ⟨l2, p2, q2, e2⟩ := h2
  obtain ⟨l3, p3, q3, e3⟩ := h3
  refine ⟨⟨l0, l1, l2, l3⟩, ?_⟩
  have hk : k3 = 0 ∨ k3 = 1 := by omega
  unfold val B256
  rcases hk with rfl | rfl
  · simp; omega
  · simp; omega
theorem val_inj {a0 a1 a2 a3 b0 b1 b2 b3 : Int} (ha : Lim4 a0 a1 a2 a3) (hb : Lim4 b0 b1 b2 b3) (h : val a0 a1 a2 a3 = val b0 b1 b2 b3) : a0 = b0 ∧ a1 = b1 ∧ a2 = b2 ∧ a3 = b3 := by
  unfold Lim4 Lim at ha hb; unfold val at h
  omega
theorem val_bd {a0 a1 a2 a3 : Int} (ha : Lim4 a0 a1 a2 a3) : 0 ≤ val a0 a1 a2 a3 ∧ val a0 a1 a2 a3 < B256 := by
  unfold Lim4 Lim at ha; unfold val B256
  omega
end Go.Proofs.YtpfeakdpckmcgaaDoor
namespace Go.Proofs.YtpfeakdpckmcgaaDoor
open Go.RowKit
theorem and32w (x : Int) (h : Lim x) : bits BinOp.and IntKind.u64 x 4294967295 = x % 4294967296 := by
  have := bits_mask .u64 64 (by decide) (fun n p q => by rw [IntKind.wrap_u64]; have : (2 : Int) ^ 64 = 18446744073709551616 := by decide
                                                         omega) 32 (by decide) x h.1 (by rw [show (2 : Int) ^ 64 = 18446744073709551616 from by decide]; exact h.2)
  rw [show (2 : Int) ^ 32 - 1 = 4294967295 from by decide, show (2 : Int) ^ 32 = 4294967296 from by decide] at this
  exact this
theorem mul_bd (a b : Int) (h0 : 0 ≤ a) (h1 : a ≤ 4294967295) (g0 : 0 ≤ b) (g1 : b ≤ 4294967295) : 0 ≤ a * b ∧ a * b ≤ 18446744065119617025 :=
  ⟨Int.mul_nonneg h0 g0, Int.le_trans (Int.mul_le_mul h1 g1 g0 (by omega)) (by decide)⟩
/-- The upper word of a product, as the library's text reckons it. -/
def mhi (x y : Int) : Int := IntKind.u64.wrap (IntKind.u64.wrap (IntKind.u64.wrap (x / 4294967296 * (y / 4294967296)) + IntKind.u64.wrap (IntKind.u64.wrap (x / 4294967296 * bits BinOp.and IntKind.u64 y 4294967295) + IntKind.u64.wrap (bits BinOp.and IntKind.u64 x 4294967295 * bits BinOp.and IntKind.u64 y 4294967295) / 4294967296) / 4294967296) + IntKind.u64.wrap (bits BinOp.and IntKind.u64 (IntKind.u64.wrap (IntKind.u64.wrap (x / 4294967296 * bits BinOp.and IntKind.u64 y 4294967295) + IntKind.u64.wrap (bits BinOp.and IntKind.u64 x 4294967295 * bits BinOp.and IntKind.u64 y 4294967295) / 4294967296)) 4294967295 + IntKind.u64.wrap (bits BinOp.and IntKind.u64 x 4294967295 * (y / 4294967296))) / 4294967296)
def Prod1 (x y hi lo : Int) : Prop := Lim hi ∧ Lim lo ∧ lo + 18446744073709551616 * hi = x * y
theorem mhi_ok (x y : Int) (hx : Lim x) (hy : Lim y) : Prod1 x y (mhi x y) (IntKind.u64.wrap (x * y)) := by
  unfold Prod1 mhi
  have wl : ∀ n : Int, Lim (IntKind.u64.wrap n) := fun n => by rw [IntKind.wrap_u64]; unfold Lim; omega
  rw [and32w _ (wl _), and32w x hx, and32w y hy]
  simp only [IntKind.wrap_u64]
  unfold Lim at *
  have b00 := mul_bd (x % 4294967296) (y % 4294967296) (by omega) (by omega) (by omega) (by omega)
  have b01 := mul_bd (x % 4294967296) (y / 4294967296) (by omega) (by omega) (by omega) (by omega)
  have b10 := mul_bd (x / 4294967296) (y % 4294967296) (by omega) (by omega) (by omega) (by omega)
  have b11 := mul_bd (x / 4294967296) (y / 4294967296) (by omega) (by omega) (by omega) (by omega)
  have hxy : x * y = 18446744073709551616 * (x / 4294967296 * (y / 4294967296)) + 4294967296 * (x / 4294967296 * (y % 4294967296)) + 4294967296 * (x % 4294967296 * (y / 4294967296)) + x % 4294967296 * (y % 4294967296) := by
    have ex : x = 4294967296 * (x / 4294967296) + x % 4294967296 := by omega
    have ey : y = 4294967296 * (y / 4294967296) + y % 4294967296 := by omega
    generalize x / 4294967296 = x1 at ex ⊢
    generalize x % 4294967296 = x0 at ex ⊢
    generalize y / 4294967296 = y1 at ey ⊢
    generalize y % 4294967296 = y0 at ey ⊢
    subst ex ey
    grind
  rw [hxy]
  generalize x / 4294967296 * (y / 4294967296) = p11 at *
  generalize x / 4294967296 * (y % 4294967296) = p10 at *
  generalize x % 4294967296 * (y / 4294967296) = p01 at *
  generalize x % 4294967296 * (y % 4294967296) = p00 at *
  clear hxy wl hx hy
  refine ⟨?_, ?_, ?_⟩ <;> omega
/-- Two words of x*y + c + d. -/
def MulAdd1 (x y c d hi lo : Int) : Prop := Lim hi ∧ Lim lo ∧ lo + 18446744073709551616 * hi = x * y + c + d
theorem prod_bd (x y : Int) (hx : Lim x) (hy : Lim y) : 0 ≤ x * y ∧ x * y ≤ 340282366920938463426481119284349108225 := by
  unfold Lim at *
  exact ⟨Int.mul_nonneg hx.1 hy.1, Int.le_trans (Int.mul_le_mul (show x ≤ 18446744073709551615 by omega) (show y ≤ 18446744073709551615 by omega) hy.1 (by omega)) (by decide)⟩
theorem mulAdd_ok {x y c d hi lo l1 k1 l2 k2 : Int} (hx : Lim x) (hy : Lim y) (hc : Lim c) (hd : Lim d) (h : Prod1 x y hi lo) (h1 : Sum1 lo c 0 l1 k1) (h2 : Sum1 l1 d 0 l2 k2) :
    MulAdd1 x y c d (IntKind.u64.wrap (IntKind.u64.wrap (hi + k1) + k2)) l2 := by
  have hb := prod_bd x y hx hy
  unfold MulAdd1 Prod1 Sum1 Lim at *
  simp only [IntKind.wrap_u64]
  generalize x * y = q at *
  refine ⟨?_, ?_, ?_⟩ <;> omega
end Go.Proofs.YtpfeakdpckmcgaaDoor
namespace Go.Proofs.YtpfeakdpckmcgaaDoor
/-- The lower four words and the upper four are those of the product. -/
def MulP (a b lo hi : Int) : Prop := lo + B256 * hi = a * b
theorem mul16 {a0 a1 a2 a3 b0 b1 b2 b3 l00 h00 l01 h01 l02 h02 l03 h03 l10 h10 l11 h11 l12 h12 l13 h13 l20 h20 l21 h21 l22 h22 l23 h23 l30 h30 l31 h31 l32 h32 l33 h33 : Int}
    (e00 : MulAdd1 a0 b0 0 0 h00 l00) (e01 : MulAdd1 a0 b1 0 h00 h01 l01) (e02 : MulAdd1 a0 b2 0 h01 h02 l02) (e03 : MulAdd1 a0 b3 0 h02 h03 l03)
    (e10 : MulAdd1 a1 b0 l01 0 h10 l10) (e11 : MulAdd1 a1 b1 l02 h10 h11 l11) (e12 : MulAdd1 a1 b2 l03 h11 h12 l12) (e13 : MulAdd1 a1 b3 h03 h12 h13 l13)
    (e20 : MulAdd1 a2 b0 l11 0 h20 l20) (e21 : MulAdd1 a2 b1 l12 h20 h21 l21) (e22 : MulAdd1 a2 b2 l13 h21 h22 l22) (e23 : MulAdd1 a2 b3 h13 h22 h23 l23)
    (e30 : MulAdd1 a3 b0 l21 0 h30 l30) (e31 : MulAdd1 a3 b1 l22 h30 h31 l31) (e32 : MulAdd1 a3 b2 l23 h31 h32 l32) (e33 : MulAdd1 a3 b3 h23 h32 h33 l33) :
    Lim4 l00 l10 l20 l30 ∧ Lim4 l31 l32 l33 h33 ∧ MulP (val a0 a1 a2 a3) (val b0 b1 b2 b3) (val l00 l10 l20 l30) (val l31 l32 l33 h33) := by
  refine ⟨⟨e00.2.1, e10.2.1, e20.2.1, e30.2.1⟩, ⟨e31.2.1, e32.2.1, e33.2.1, e33.1⟩, ?_⟩
  have q00 := e00.2.2; have q01 := e01.2.2; have q02 := e02.2.2; have q03 := e03.2.2
  have q10 := e10.2.2; have q11 := e11.2.2; have q12 := e12.2.2; have q13 := e13.2.2
  have q20 := e20.2.2; have q21 := e21.2.2; have q22 := e22.2.2; have q23 := e23.2.2
  have q30 := e30.2.2; have q31 := e31.2.2; have q32 := e32.2.2; have q33 := e33.2.2
  clear e00 e01 e02 e03 e10 e11 e12 e13 e20 e21 e22 e23 e30 e31 e32 e33
  unfold MulP
  have hp : val a0 a1 a2 a3 * val b0 b1 b2 b3 = a0 * b0 + 18446744073709551616 * (a0 * b1 + a1 * b0 + 18446744073709551616 * (a0 * b2 + a1 * b1 + a2 * b0 + 18446744073709551616 * (a0 * b3 + a1 * b2 + a2 * b1 + a3 * b0 + 18446744073709551616 * (a1 * b3 + a2 * b2 + a3 * b1 + 18446744073709551616 * (a2 * b3 + a3 * b2 + 18446744073709551616 * (a3 * b3)))))) := by
    unfold val
    grind
  rw [hp]
  clear hp
  unfold val B256
  generalize a0 * b0 = m00 at *
  generalize a0 * b1 = m01 at *
  generalize a0 * b2 = m02 at *
  generalize a0 * b3 = m03 at *
  generalize a1 * b0 = m10 at *
  generalize a1 * b1 = m11 at *
  generalize a1 * b2 = m12 at *
  generalize a1 * b3 = m13 at *
  generalize a2 * b0 = m20 at *
  generalize a2 * b1 = m21 at *
  generalize a2 * b2 = m22 at *
  generalize a2 * b3 = m23 at *
  generalize a3 * b0 = m30 at *
  generalize a3 * b1 = m31 at *
  generalize a3 * b2 = m32 at *
  generalize a3 * b3 = m33 at *
  omega
end Go.Proofs.YtpfeakdpckmcgaaDoor
