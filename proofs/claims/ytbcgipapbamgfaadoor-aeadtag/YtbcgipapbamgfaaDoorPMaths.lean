/-
  The plain numbers of this seat: four words of 64 bits as one number; no Go in this text.
  Products of two words, as math/bits.Mul64 makes them, and as limbs.mulAdd puts two more words in.
  What limbs.Mul's loops come to: the eight words are the product.
  Numbers modulo 2^130 - 5: no Go in this text.
  Words for all walks: what a call leaves ('Ext'), arrays' cells as functions, four words in a block. No function of the program is named here.
  Words for walks that write: rows of four words that may be written, kept over calls and other stores. No function of the program is named here.
-/
import Derived.WalkKit
import Derived.Test.YtbcgipapbamgfaaDoorLows
import Derived.WalkSpells
import Derived.WalkLawsBesides
import Derived.Deep.RegionHeld3
import Derived.Deep.DeepCutAuto
namespace Go.Proofs.YtbcgipapbamgfaaDoor

/-- A word of 64 bits. -/
def Lim (a : Int) : Prop := 0 ≤ a ∧ a < 18446744073709551616
def Lim4 (a b c d : Int) : Prop := Lim a ∧ Lim b ∧ Lim c ∧ Lim d
/-- The number of four words, the lowest first. -/
def val (a b c d : Int) : Int := a + 18446744073709551616 * (b + 18446744073709551616 * (c + 18446744073709551616 * d))
/-- 2^256. -/
def B256 : Int := 115792089237316195423570985008687907853269984665640564039457584007913129639936
/-- One word's sum: s and the carry k, of x, y and the carry c. -/
def Sum1 (x y c s k : Int) : Prop := Lim s ∧ 0 ≤ k ∧ k ≤ 1 ∧ s + 18446744073709551616 * k = x + y + c
/-- One word's difference: s and the borrow k, of x, y and the borrow c. -/
def Dif1 (x y c s k : Int) : Prop := Lim s ∧ 0 ≤ k ∧ k ≤ 1 ∧ s = x - y - c + 18446744073709551616 * k
def AddP (a0 a1 a2 a3 b0 b1 b2 b3 s0 s1 s2 s3 : Int) (c : Bool) : Prop :=
  Lim4 s0 s1 s2 s3 ∧ val s0 s1 s2 s3 + (if c then B256 else 0) = val a0 a1 a2 a3 + val b0 b1 b2 b3
def SubP (a0 a1 a2 a3 b0 b1 b2 b3 s0 s1 s2 s3 : Int) (c : Bool) : Prop :=
  Lim4 s0 s1 s2 s3 ∧ val s0 s1 s2 s3 = val a0 a1 a2 a3 - val b0 b1 b2 b3 + (if c then B256 else 0)

theorem addP_of {a0 a1 a2 a3 b0 b1 b2 b3 s0 s1 s2 s3 k0 k1 k2 k3 : Int} (h0 : Sum1 a0 b0 0 s0 k0) (h1 : Sum1 a1 b1 k0 s1 k1) (h2 : Sum1 a2 b2 k1 s2 k2) (h3 : Sum1 a3 b3 k2 s3 k3) :
    AddP a0 a1 a2 a3 b0 b1 b2 b3 s0 s1 s2 s3 (k3 != 0) := by
  obtain ⟨l0, p0, q0, e0⟩ := h0
  obtain ⟨l1, p1, q1, e1⟩ := h1
  obtain ⟨l2, p2, q2, e2⟩ := h2
  obtain ⟨l3, p3, q3, e3⟩ := h3
  refine ⟨⟨l0, l1, l2, l3⟩, ?_⟩
  have hk : k3 = 0 ∨ k3 = 1 := by omega
  unfold val B256
  rcases hk with rfl | rfl
  · simp; omega
  · simp; omega
theorem subP_of {a0 a1 a2 a3 b0 b1 b2 b3 s0 s1 s2 s3 k0 k1 k2 k3 : Int} (h0 : Dif1 a0 b0 0 s0 k0) (h1 : Dif1 a1 b1 k0 s1 k1) (h2 : Dif1 a2 b2 k1 s2 k2) (h3 : Dif1 a3 b3 k2 s3 k3) :
    SubP a0 a1 a2 a3 b0 b1 b2 b3 s0 s1 s2 s3 (k3 != 0) := by
  obtain ⟨l0, p0, q0, e0⟩ := h0
  obtain ⟨l1, p1, q1, e1⟩ := h1
  obtain ⟨l2, p2, q2, e2⟩ := h2
  obtain ⟨l3, p3, q3, e3⟩ := h3
  refine ⟨⟨l0, l1, l2, l3⟩, ?_⟩
  have hk : k3 = 0 ∨ k3 = 1 := by omega
  unfold val B256
  rcases hk with rfl | rfl
  · simp; omega
  · simp; omega
theorem val_inj {a0 a1 a2 a3 b0 b1 b2 b3 : Int} (ha : Lim4 a0 a1 a2 a3) (hb : Lim4 b0 b1 b2 b3) (h : val a0 a1 a2 a3 = val b0 b1 b2 b3) : a0 = b0 ∧ a1 = b1 ∧ a2 = b2 ∧ a3 = b3 := by
  unfold Lim4 Lim at ha hb; unfold val at h
  omega
theorem val_bd {a0 a1 a2 a3 : Int} (ha : Lim4 a0 a1 a2 a3) : 0 ≤ val a0 a1 a2 a3 ∧ val a0 a1 a2 a3 < B256 := by
  unfold Lim4 Lim at ha; unfold val B256
  omega
end Go.Proofs.YtbcgipapbamgfaaDoor
namespace Go.Proofs.YtbcgipapbamgfaaDoor
open Go.RowKit
theorem and32w (x : Int) (h : Lim x) : bits BinOp.and IntKind.u64 x 4294967295 = x % 4294967296 := by
  have := bits_mask .u64 64 (by decide) (fun n p q => by rw [IntKind.wrap_u64]; have : (2 : Int) ^ 64 = 18446744073709551616 := by decide
                                                         omega) 32 (by decide) x h.1 (by rw [show (2 : Int) ^ 64 = 18446744073709551616 from by decide]; exact h.2)
  rw [show (2 : Int) ^ 32 - 1 = 4294967295 from by decide, show (2 : Int) ^ 32 = 4294967296 from by decide] at this
  exact this
theorem mul_bd (a b : Int) (h0 : 0 ≤ a) (h1 : a ≤ 4294967295) (g0 : 0 ≤ b) (g1 : b ≤ 4294967295) : 0 ≤ a * b ∧ a * b ≤ 18446744065119617025 :=
  ⟨Int.mul_nonneg h0 g0, Int.le_trans (Int.mul_le_mul h1 g1 g0 (by omega)) (by decide)⟩
/-- The upper word of a product, as the library's text reckons it. -/
def mhi (x y : Int) : Int := IntKind.u64.wrap (IntKind.u64.wrap (IntKind.u64.wrap (x / 4294967296 * (y / 4294967296)) + IntKind.u64.wrap (IntKind.u64.wrap (x / 4294967296 * bits BinOp.and IntKind.u64 y 4294967295) + IntKind.u64.wrap (bits BinOp.and IntKind.u64 x 4294967295 * bits BinOp.and IntKind.u64 y 4294967295) / 4294967296) / 4294967296) + IntKind.u64.wrap (bits BinOp.and IntKind.u64 (IntKind.u64.wrap (IntKind.u64.wrap (x / 4294967296 * bits BinOp.and IntKind.u64 y 4294967295) + IntKind.u64.wrap (bits BinOp.and IntKind.u64 x 4294967295 * bits BinOp.and IntKind.u64 y 4294967295) / 4294967296)) 4294967295 + IntKind.u64.wrap (bits BinOp.and IntKind.u64 x 4294967295 * (y / 4294967296))) / 4294967296)
def Prod1 (x y hi lo : Int) : Prop := Lim hi ∧ Lim lo ∧ lo + 18446744073709551616 * hi = x * y
theorem mhi_ok (x y : Int) (hx : Lim x) (hy : Lim y) : Prod1 x y (mhi x y) (IntKind.u64.wrap (x * y)) := by
  unfold Prod1 mhi
  have wl : ∀ n : Int, Lim (IntKind.u64.wrap n) := fun n => by rw [IntKind.wrap_u64]; unfold Lim; omega
  rw [and32w _ (wl _), and32w x hx, and32w y hy]
  simp only [IntKind.wrap_u64]
  unfold Lim at *
  have b00 := mul_bd (x % 4294967296) (y % 4294967296) (by omega) (by omega) (by omega) (by omega)
  have b01 := mul_bd (x % 4294967296) (y / 4294967296) (by omega) (by omega) (by omega) (by omega)
  have b10 := mul_bd (x / 4294967296) (y % 4294967296) (by omega) (by omega) (by omega) (by omega)
  have b11 := mul_bd (x / 4294967296) (y / 4294967296) (by omega) (by omega) (by omega) (by omega)
  have hxy : x * y = 18446744073709551616 * (x / 4294967296 * (y / 4294967296)) + 4294967296 * (x / 4294967296 * (y % 4294967296)) + 4294967296 * (x % 4294967296 * (y / 4294967296)) + x % 4294967296 * (y % 4294967296) := by
    have ex : x = 4294967296 * (x / 4294967296) + x % 4294967296 := by omega
    have ey : y = 4294967296 * (y / 4294967296) + y % 4294967296 := by omega
    generalize x / 4294967296 = x1 at ex ⊢
    generalize x % 4294967296 = x0 at ex ⊢
    generalize y / 4294967296 = y1 at ey ⊢
    generalize y % 4294967296 = y0 at ey ⊢
    subst ex ey
    grind
  rw [hxy]
  generalize x / 4294967296 * (y / 4294967296) = p11 at *
  generalize x / 4294967296 * (y % 4294967296) = p10 at *
  generalize x % 4294967296 * (y / 4294967296) = p01 at *
  generalize x % 4294967296 * (y % 4294967296) = p00 at *
  clear hxy wl hx hy
  refine ⟨?_, ?_, ?_⟩ <;> omega
/-- Two words of x*y + c + d. -/
def MulAdd1 (x y c d hi lo : Int) : Prop := Lim hi ∧ Lim lo ∧ lo + 18446744073709551616 * hi = x * y + c + d
theorem prod_bd (x y : Int) (hx : Lim x) (hy : Lim y) : 0 ≤ x * y ∧ x * y ≤ 340282366920938463426481119284349108225 := by
  unfold Lim at *
  exact ⟨Int.mul_nonneg hx.1 hy.1, Int.le_trans (Int.mul_le_mul (show x ≤ 18446744073709551615 by omega) (show y ≤ 18446744073709551615 by omega) hy.1 (by omega)) (by decide)⟩
theorem mulAdd_ok {x y c d hi lo l1 k1 l2 k2 : Int} (hx : Lim x) (hy : Lim y) (hc : Lim c) (hd : Lim d) (h : Prod1 x y hi lo) (h1 : Sum1 lo c 0 l1 k1) (h2 : Sum1 l1 d 0 l2 k2) :
    MulAdd1 x y c d (IntKind.u64.wrap (IntKind.u64.wrap (hi + k1) + k2)) l2 := by
  have hb := prod_bd x y hx hy
  unfold MulAdd1 Prod1 Sum1 Lim at *
  simp only [IntKind.wrap_u64]
  generalize x * y = q at *
  refine ⟨?_, ?_, ?_⟩ <;> omega
end Go.Proofs.YtbcgipapbamgfaaDoor
namespace Go.Proofs.YtbcgipapbamgfaaDoor
/-- The lower four words and the upper four are those of the product. -/
def MulP (a b lo hi : Int) : Prop := lo + B256 * hi = a * b
theorem mul16 {a0 a1 a2 a3 b0 b1 b2 b3 l00 h00 l01 h01 l02 h02 l03 h03 l10 h10 l11 h11 l12 h12 l13 h13 l20 h20 l21 h21 l22 h22 l23 h23 l30 h30 l31 h31 l32 h32 l33 h33 : Int}
    (e00 : MulAdd1 a0 b0 0 0 h00 l00) (e01 : MulAdd1 a0 b1 0 h00 h01 l01) (e02 : MulAdd1 a0 b2 0 h01 h02 l02) (e03 : MulAdd1 a0 b3 0 h02 h03 l03)
    (e10 : MulAdd1 a1 b0 l01 0 h10 l10) (e11 : MulAdd1 a1 b1 l02 h10 h11 l11) (e12 : MulAdd1 a1 b2 l03 h11 h12 l12) (e13 : MulAdd1 a1 b3 h03 h12 h13 l13)
    (e20 : MulAdd1 a2 b0 l11 0 h20 l20) (e21 : MulAdd1 a2 b1 l12 h20 h21 l21) (e22 : MulAdd1 a2 b2 l13 h21 h22 l22) (e23 : MulAdd1 a2 b3 h13 h22 h23 l23)
    (e30 : MulAdd1 a3 b0 l21 0 h30 l30) (e31 : MulAdd1 a3 b1 l22 h30 h31 l31) (e32 : MulAdd1 a3 b2 l23 h31 h32 l32) (e33 : MulAdd1 a3 b3 h23 h32 h33 l33) :
    Lim4 l00 l10 l20 l30 ∧ Lim4 l31 l32 l33 h33 ∧ MulP (val a0 a1 a2 a3) (val b0 b1 b2 b3) (val l00 l10 l20 l30) (val l31 l32 l33 h33) := by
  refine ⟨⟨e00.2.1, e10.2.1, e20.2.1, e30.2.1⟩, ⟨e31.2.1, e32.2.1, e33.2.1, e33.1⟩, ?_⟩
  have q00 := e00.2.2; have q01 := e01.2.2; have q02 := e02.2.2; have q03 := e03.2.2
  have q10 := e10.2.2; have q11 := e11.2.2; have q12 := e12.2.2; have q13 := e13.2.2
  have q20 := e20.2.2; have q21 := e21.2.2; have q22 := e22.2.2; have q23 := e23.2.2
  have q30 := e30.2.2; have q31 := e31.2.2; have q32 := e32.2.2; have q33 := e33.2.2
  clear e00 e01 e02 e03 e10 e11 e12 e13 e20 e21 e22 e23 e30 e31 e32 e33
  unfold MulP
  have hp : val a0 a1 a2 a3 * val b0 b1 b2 b3 = a0 * b0 + 18446744073709551616 * (a0 * b1 + a1 * b0 + 18446744073709551616 * (a0 * b2 + a1 * b1 + a2 * b0 + 18446744073709551616 * (a0 * b3 + a1 * b2 + a2 * b1 + a3 * b0 + 18446744073709551616 * (a1 * b3 + a2 * b2 + a3 * b1 + 18446744073709551616 * (a2 * b3 + a3 * b2 + 18446744073709551616 * (a3 * b3)))))) := by
    unfold val
    grind
  rw [hp]
  clear hp
  unfold val B256
  generalize a0 * b0 = m00 at *
  generalize a0 * b1 = m01 at *
  generalize a0 * b2 = m02 at *
  generalize a0 * b3 = m03 at *
  generalize a1 * b0 = m10 at *
  generalize a1 * b1 = m11 at *
  generalize a1 * b2 = m12 at *
  generalize a1 * b3 = m13 at *
  generalize a2 * b0 = m20 at *
  generalize a2 * b1 = m21 at *
  generalize a2 * b2 = m22 at *
  generalize a2 * b3 = m23 at *
  generalize a3 * b0 = m30 at *
  generalize a3 * b1 = m31 at *
  generalize a3 * b2 = m32 at *
  generalize a3 * b3 = m33 at *
  omega
end Go.Proofs.YtbcgipapbamgfaaDoor
namespace Go.Proofs.YtbcgipapbamgfaaDoor
/-- 2^130 - 5. -/
def P13 : Int := 1361129467683753853853498429727072845819
theorem val_P13 : val 18446744073709551611 18446744073709551615 3 0 = P13 := by decide
theorem lim_P13 : Lim4 18446744073709551611 18446744073709551615 3 0 := by unfold Lim4 Lim; decide
theorem P13_pos : (0 : Int) < P13 := by decide
/-- A number modulo 2^130 - 5. -/
def PMod (x r0 r1 r2 r3 : Int) : Prop := Lim4 r0 r1 r2 r3 ∧ val r0 r1 r2 r3 = x % P13
theorem PMod.less {x r0 r1 r2 r3 : Int} (h : PMod x r0 r1 r2 r3) : val r0 r1 r2 r3 < P13 := by
  rw [h.2]; exact Int.emod_lt_of_pos _ P13_pos
theorem PMod.cong {x y r0 r1 r2 r3 : Int} (h : PMod x r0 r1 r2 r3) (e : x % P13 = y % P13) : PMod y r0 r1 r2 r3 := ⟨h.1, h.2.trans e⟩
theorem pmod_less {x0 x1 x2 x3 : Int} (hx : Lim4 x0 x1 x2 x3) (h : val x0 x1 x2 x3 < P13) : PMod (val x0 x1 x2 x3) x0 x1 x2 x3 :=
  ⟨hx, (Int.emod_eq_of_lt (val_bd hx).1 h).symm⟩
theorem padd_less {x0 x1 x2 x3 y0 y1 y2 y3 s0 s1 s2 s3 : Int} {k : Bool} (hx : Lim4 x0 x1 x2 x3) (hy : Lim4 y0 y1 y2 y3) (lx : val x0 x1 x2 x3 < P13) (ly : val y0 y1 y2 y3 < P13) (hs : AddP x0 x1 x2 x3 y0 y1 y2 y3 s0 s1 s2 s3 k) : val s0 s1 s2 s3 = val x0 x1 x2 x3 + val y0 y1 y2 y3 := by
  obtain ⟨ls, es⟩ := hs
  have b1 := val_bd hx
  have b2 := val_bd hy
  have b3 := val_bd ls
  unfold P13 B256 at *
  cases k <;> simp at es <;> omega
theorem padd_small {x0 x1 x2 x3 y0 y1 y2 y3 s0 s1 s2 s3 : Int} {k : Bool} (hx : Lim4 x0 x1 x2 x3) (hy : Lim4 y0 y1 y2 y3) (lx : val x0 x1 x2 x3 < P13) (ly : val y0 y1 y2 y3 < P13) (hs : AddP x0 x1 x2 x3 y0 y1 y2 y3 s0 s1 s2 s3 k) (h : val s0 s1 s2 s3 < P13) : PMod (val x0 x1 x2 x3 + val y0 y1 y2 y3) s0 s1 s2 s3 := by
  have := padd_less hx hy lx ly hs
  rw [← this]
  exact pmod_less hs.1 h
theorem padd_great {x0 x1 x2 x3 y0 y1 y2 y3 s0 s1 s2 s3 d0 d1 d2 d3 : Int} {k c : Bool} (hx : Lim4 x0 x1 x2 x3) (hy : Lim4 y0 y1 y2 y3) (lx : val x0 x1 x2 x3 < P13) (ly : val y0 y1 y2 y3 < P13) (hs : AddP x0 x1 x2 x3 y0 y1 y2 y3 s0 s1 s2 s3 k) (h : ¬ val s0 s1 s2 s3 < P13)
    (hd : SubP s0 s1 s2 s3 18446744073709551611 18446744073709551615 3 0 d0 d1 d2 d3 c) : PMod (val x0 x1 x2 x3 + val y0 y1 y2 y3) d0 d1 d2 d3 := by
  have hq := padd_less hx hy lx ly hs
  obtain ⟨ld, ed⟩ := hd
  rw [val_P13] at ed
  have b1 := val_bd hs.1
  have b2 := val_bd ld
  refine ⟨ld, ?_⟩
  rw [← hq]
  have : val s0 s1 s2 s3 % P13 = val s0 s1 s2 s3 - P13 := by unfold P13 at *; omega
  rw [this]
  unfold P13 B256 at *
  cases c <;> simp at ed <;> omega
end Go.Proofs.YtbcgipapbamgfaaDoor
namespace Go.Proofs.YtbcgipapbamgfaaDoor
open Go.RowKit
/-- Word number i of four. -/
def wd (a0 a1 a2 a3 : Int) (i : Nat) : Int := if i = 0 then a0 else if i = 1 then a1 else if i = 2 then a2 else a3
theorem wd_get (a0 a1 a2 a3 : Int) (i : Nat) (h : i < 4) : [Value.int .u64 a0, .int .u64 a1, .int .u64 a2, .int .u64 a3][i]? = some (.int .u64 (wd a0 a1 a2 a3 i)) := by
  have : i = 0 ∨ i = 1 ∨ i = 2 ∨ i = 3 := by omega
  rcases this with rfl | rfl | rfl | rfl <;> rfl
theorem wd_lim {a0 a1 a2 a3 : Int} (h : Lim4 a0 a1 a2 a3) (i : Nat) : Lim (wd a0 a1 a2 a3 i) := by
  obtain ⟨h0, h1, h2, h3⟩ := h
  unfold wd
  split
  · exact h0
  · split
    · exact h1
    · split
      · exact h2
      · exact h3
/-- Four words as an array's cells. -/
def fa (W : Nat → Int) : Array Value := #[.int .u64 (W 0), .int .u64 (W 1), .int .u64 (W 2), .int .u64 (W 3)]
theorem fa_get (W : Nat → Int) (j : Nat) (h : j < 4) : (fa W)[j]? = some (.int .u64 (W j)) := by
  have : j = 0 ∨ j = 1 ∨ j = 2 ∨ j = 3 := by omega
  rcases this with rfl | rfl | rfl | rfl <;> rfl
theorem fa_set (W : Nat → Int) (j : Nat) (h : j < 4) (v : Int) : (fa W).setIfInBounds j (.int .u64 v) = fa (fun i => if i = j then v else W i) := by
  have : j = 0 ∨ j = 1 ∨ j = 2 ∨ j = 3 := by omega
  rcases this with rfl | rfl | rfl | rfl <;> simp [fa]
/-- Eight words as an array's cells. -/
def f8 (P : Nat → Int) : Array Value := #[.int .u64 (P 0), .int .u64 (P 1), .int .u64 (P 2), .int .u64 (P 3), .int .u64 (P 4), .int .u64 (P 5), .int .u64 (P 6), .int .u64 (P 7)]
theorem f8_get (P : Nat → Int) (j : Nat) (h : j < 8) : (f8 P)[j]? = some (.int .u64 (P j)) := by
  have : j = 0 ∨ j = 1 ∨ j = 2 ∨ j = 3 ∨ j = 4 ∨ j = 5 ∨ j = 6 ∨ j = 7 := by omega
  rcases this with rfl | rfl | rfl | rfl | rfl | rfl | rfl | rfl <;> rfl
theorem f8_set (P : Nat → Int) (j : Nat) (h : j < 8) (v : Int) : (f8 P).setIfInBounds j (.int .u64 v) = f8 (fun i => if i = j then v else P i) := by
  have : j = 0 ∨ j = 1 ∨ j = 2 ∨ j = 3 ∨ j = 4 ∨ j = 5 ∨ j = 6 ∨ j = 7 := by omega
  rcases this with rfl | rfl | rfl | rfl | rfl | rfl | rfl | rfl <;> simp [f8]
theorem lim_of (x : Int) (h : decide (0 ≤ x ∧ x < 18446744073709551616) = true) : Lim x := by
  unfold Lim
  exact of_decide_eq_true h
theorem row_new (w : World) (x0 x1 x2 x3 : Value) (t : TypeId) : (w.alloc (.cells #[x0, x1, x2, x3] t)).cell? ⟨w.heap.size, 0, none⟩ = some x0 ∧ (w.alloc (.cells #[x0, x1, x2, x3] t)).cell? ⟨w.heap.size, 1, none⟩ = some x1 ∧ (w.alloc (.cells #[x0, x1, x2, x3] t)).cell? ⟨w.heap.size, 2, none⟩ = some x2 ∧ (w.alloc (.cells #[x0, x1, x2, x3] t)).cell? ⟨w.heap.size, 3, none⟩ = some x3 := by
  refine ⟨?_, ?_, ?_, ?_⟩ <;> (rw [World.cell?_alloc_at _ _ _ _ rfl]; rfl)
/-- Four words in block b, from its first cell on. -/
def Row (w : World) (b : Nat) (x0 x1 x2 x3 : Int) : Prop := b < w.heap.size ∧ w.cell? ⟨b, 0, none⟩ = some (.int .u64 x0) ∧ w.cell? ⟨b, 1, none⟩ = some (.int .u64 x1) ∧ w.cell? ⟨b, 2, none⟩ = some (.int .u64 x2) ∧ w.cell? ⟨b, 3, none⟩ = some (.int .u64 x3)
theorem Row.new (w : World) (x0 x1 x2 x3 : Int) : Row (w.alloc (.cells #[.int .u64 x0, .int .u64 x1, .int .u64 x2, .int .u64 x3] 89)) w.heap.size x0 x1 x2 x3 :=
  ⟨by simp, row_new w _ _ _ _ 89⟩
theorem Row.ext {w w' : World} {b : Nat} {x0 x1 x2 x3 : Int} (h : Row w b x0 x1 x2 x3) (hx : Ext w w') : Row w' b x0 x1 x2 x3 :=
  ⟨Nat.lt_of_lt_of_le h.1 hx.size, later hx h.2.1, later hx h.2.2.1, later hx h.2.2.2.1, later hx h.2.2.2.2⟩
theorem Row.two (w : World) (x0 x1 x2 x3 y0 y1 y2 y3 : Int) :
    Row ((w.alloc (.cells #[.int .u64 x0, .int .u64 x1, .int .u64 x2, .int .u64 x3] 89)).alloc (.cells #[.int .u64 y0, .int .u64 y1, .int .u64 y2, .int .u64 y3] 89)) w.heap.size x0 x1 x2 x3 ∧
    Row ((w.alloc (.cells #[.int .u64 x0, .int .u64 x1, .int .u64 x2, .int .u64 x3] 89)).alloc (.cells #[.int .u64 y0, .int .u64 y1, .int .u64 y2, .int .u64 y3] 89)) (w.heap.size + 1) y0 y1 y2 y3 := by
  refine ⟨(Row.new w x0 x1 x2 x3).ext ((Ext.refl _).alloc _), ?_⟩
  have := Row.new (w.alloc (.cells #[.int .u64 x0, .int .u64 x1, .int .u64 x2, .int .u64 x3] 89)) y0 y1 y2 y3
  rwa [show (w.alloc (.cells #[.int .u64 x0, .int .u64 x1, .int .u64 x2, .int .u64 x3] 89)).heap.size = w.heap.size + 1 from by simp] at this
end Go.Proofs.YtbcgipapbamgfaaDoor
namespace Go.Proofs.YtbcgipapbamgfaaDoor
open Go.RowKit
theorem extAlloc {a w : World} {o : Obj} (h : Ext a w) : Ext a (w.alloc o) := h.alloc o
theorem extDrew {a w : World} (h : Ext a w) : Ext a w.drew := h.drew
theorem keep1 {W0 wx : World} {b : Nat} {x0 x1 x2 x3 : Int} (hb : Ext W0 wx) (h : Row W0 b x0 x1 x2 x3) : Ext W0 wx ∧ wx.cell? ⟨b, 0, none⟩ = some (.int .u64 x0) ∧ wx.cell? ⟨b, 1, none⟩ = some (.int .u64 x1) ∧ wx.cell? ⟨b, 2, none⟩ = some (.int .u64 x2) ∧ wx.cell? ⟨b, 3, none⟩ = some (.int .u64 x3) :=
  ⟨hb, later hb h.2.1, later hb h.2.2.1, later hb h.2.2.2.1, later hb h.2.2.2.2⟩
theorem keep2 {W0 wx : World} {b c : Nat} {x0 x1 x2 x3 y0 y1 y2 y3 : Int} (hb : Ext W0 wx) (h : Row W0 b x0 x1 x2 x3) (k : Row W0 c y0 y1 y2 y3) : Ext W0 wx ∧ wx.cell? ⟨b, 0, none⟩ = some (.int .u64 x0) ∧ wx.cell? ⟨b, 1, none⟩ = some (.int .u64 x1) ∧ wx.cell? ⟨b, 2, none⟩ = some (.int .u64 x2) ∧ wx.cell? ⟨b, 3, none⟩ = some (.int .u64 x3) ∧ wx.cell? ⟨c, 0, none⟩ = some (.int .u64 y0) ∧ wx.cell? ⟨c, 1, none⟩ = some (.int .u64 y1) ∧ wx.cell? ⟨c, 2, none⟩ = some (.int .u64 y2) ∧ wx.cell? ⟨c, 3, none⟩ = some (.int .u64 y3) :=
  ⟨hb, later hb h.2.1, later hb h.2.2.1, later hb h.2.2.2.1, later hb h.2.2.2.2, later hb k.2.1, later hb k.2.2.1, later hb k.2.2.2.1, later hb k.2.2.2.2⟩
/-- Four words in block b, which may be written. -/
def RowF (w : World) (b : Nat) (x0 x1 x2 x3 : Int) : Prop := Row w b x0 x1 x2 x3 ∧ w.frozen? ⟨b, 0, none⟩ = false ∧ w.frozen? ⟨b, 1, none⟩ = false ∧ w.frozen? ⟨b, 2, none⟩ = false ∧ w.frozen? ⟨b, 3, none⟩ = false
theorem RowF.new (w : World) (x0 x1 x2 x3 : Int) : RowF (w.alloc (.cells #[.int .u64 x0, .int .u64 x1, .int .u64 x2, .int .u64 x3] 89)) w.heap.size x0 x1 x2 x3 :=
  ⟨Row.new w x0 x1 x2 x3, World.frozen?_alloc_at _ _ _ _ rfl, World.frozen?_alloc_at _ _ _ _ rfl, World.frozen?_alloc_at _ _ _ _ rfl, World.frozen?_alloc_at _ _ _ _ rfl⟩
theorem RowF.ext {w w' : World} {b : Nat} {x0 x1 x2 x3 : Int} (h : RowF w b x0 x1 x2 x3) (hx : Ext w w') : RowF w' b x0 x1 x2 x3 :=
  ⟨h.1.ext hx, (hx.cells.2 b 0 h.1.1).trans h.2.1, (hx.cells.2 b 1 h.1.1).trans h.2.2.1, (hx.cells.2 b 2 h.1.1).trans h.2.2.2.1, (hx.cells.2 b 3 h.1.1).trans h.2.2.2.2⟩
theorem RowF.set {w : World} {b : Nat} {x0 x1 x2 x3 v0 v1 v2 v3 : Int} (h : RowF w b x0 x1 x2 x3) : RowF ((((w.setCell ⟨b, 0, none⟩ (.int .u64 v0)).setCell ⟨b, 1, none⟩ (.int .u64 v1)).setCell ⟨b, 2, none⟩ (.int .u64 v2)).setCell ⟨b, 3, none⟩ (.int .u64 v3)) b v0 v1 v2 v3 := by
  obtain ⟨⟨l, c0, c1, c2, c3⟩, f0, f1, f2, f3⟩ := h
  refine ⟨⟨by simpa using l, ?_, ?_, ?_, ?_⟩, ?_, ?_, ?_, ?_⟩ <;> go_simp
theorem RowF.other {w : World} {b c i : Nat} {x0 x1 x2 x3 : Int} {v : Value} (hne : c ≠ b) (h : RowF w c x0 x1 x2 x3) : RowF (w.setCell ⟨b, i, none⟩ v) c x0 x1 x2 x3 := by
  obtain ⟨⟨l, c0, c1, c2, c3⟩, f0, f1, f2, f3⟩ := h
  refine ⟨⟨by simpa using l, ?_, ?_, ?_, ?_⟩, ?_, ?_, ?_, ?_⟩ <;> go_simp
/-- The number in a cell. -/
def cv (w : World) (b i : Nat) : Int := match w.cell? ⟨b, i, none⟩ with
  | some (.int _ n) => n
  | _ => 0
theorem cv_row {w : World} {b : Nat} {x0 x1 x2 x3 : Int} (h : Row w b x0 x1 x2 x3) : val (cv w b 0) (cv w b 1) (cv w b 2) (cv w b 3) = val x0 x1 x2 x3 := by
  obtain ⟨_, c0, c1, c2, c3⟩ := h
  simp [cv, c0, c1, c2, c3]
theorem Row.other {w : World} {b c i : Nat} {x0 x1 x2 x3 : Int} {v : Value} (hne : c ≠ b) (h : Row w c x0 x1 x2 x3) : Row (w.setCell ⟨b, i, none⟩ v) c x0 x1 x2 x3 := by
  obtain ⟨l, c0, c1, c2, c3⟩ := h
  refine ⟨by simpa using l, ?_, ?_, ?_, ?_⟩ <;> (rw [World.cell?_setCell_far _ _ _ _ (fun q => hne q.symm)]; assumption)
end Go.Proofs.YtbcgipapbamgfaaDoor
