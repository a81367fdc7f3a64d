/-
  Products of two words, as math/bits.Mul64 makes them, and as limbs.mulAdd puts two more words in.
-/
import Derived.WalkKit
import Derived.Test.YtgpcnmdaplkpoaaMath
namespace Go.Proofs.Ytgpcnmdaplkpoaa
open Go.RowKit
theorem and32w (x : Int) (h : Lim x) : bits BinOp.and IntKind.u64 x 4294967295 = x % 4294967296 := by
  have := bits_mask .u64 64 (by decide) (fun n p q => by rw [IntKind.wrap_u64]; have : (2 : Int) ^ 64 = 18446744073709551616 := by decide
                                                         omega) 32 (by decide) x h.1 (by rw [show (2 : Int) ^ 64 = 18446744073709551616 from by decide]; exact h.2)
  rw [show (2 : Int) ^ 32 - 1 = 4294967295 from by decide, show (2 : Int) ^ 32 = 4294967296 from by decide] at this
  exact this
theorem mul_bd (a b : Int) (h0 : 0 ≤ a) (h1 : a ≤ 4294967295) (g0 : 0 ≤ b) (g1 : b ≤ 4294967295) : 0 ≤ a * b ∧ a * b ≤ 18446744065119617025 :=
  ⟨Int.mul_nonneg h0 g0, Int.le_trans (Int.mul_le_mul h1 g1 g0 (by omega)) (by decide)⟩
/-- The upper word of a product, as the library's text reckons it. -/
def mhi (x y : Int) : Int := IntKind.u64.wrap (IntKind.u64.wrap (IntKind.u64.wrap (x / 4294967296 * (y / 4294967296)) + IntKind.u64.wrap (IntKind.u64.wrap (x / 4294967296 * bits BinOp.and IntKind.u64 y 4294967295) + IntKind.u64.wrap (bits BinOp.and IntKind.u64 x 4294967295 * bits BinOp.and IntKind.u64 y 4294967295) / 4294967296) / 4294967296) + IntKind.u64.wrap (bits BinOp.and IntKind.u64 (IntKind.u64.wrap (IntKind.u64.wrap (x / 4294967296 * bits BinOp.and IntKind.u64 y 4294967295) + IntKind.u64.wrap (bits BinOp.and IntKind.u64 x 4294967295 * bits BinOp.and IntKind.u64 y 4294967295) / 4294967296)) 4294967295 + IntKind.u64.wrap (bits BinOp.and IntKind.u64 x 4294967295 * (y / 4294967296))) / 4294967296)
def Prod1 (x y hi lo : Int) : Prop := Lim hi ∧ Lim lo ∧ lo + 18446744073709551616 * hi = x * y
theorem mhi_ok (x y : Int) (hx : Lim x) (hy : Lim y) : Prod1 x y (mhi x y) (IntKind.u64.wrap (x * y)) := by
  unfold Prod1 mhi
  have wl : ∀ n : Int, Lim (IntKind.u64.wrap n) := fun n => by rw [IntKind.wrap_u64]; unfold Lim; omega
  rw [and32w _ (wl _), and32w x hx, and32w y hy]
  simp only [IntKind.wrap_u64]
  unfold Lim at *
  have b00 := mul_bd (x % 4294967296) (y % 4294967296) (by omega) (by omega) (by omega) (by omega)
  have b01 := mul_bd (x % 4294967296) (y / 4294967296) (by omega) (by omega) (by omega) (by omega)
  have b10 := mul_bd (x / 4294967296) (y % 4294967296) (by omega) (by omega) (by omega) (by omega)
  have b11 := mul_bd (x / 4294967296) (y / 4294967296) (by omega) (by omega) (by omega) (by omega)
  have hxy : x * y = 18446744073709551616 * (x / 4294967296 * (y / 4294967296)) + 4294967296 * (x / 4294967296 * (y % 4294967296)) + 4294967296 * (x % 4294967296 * (y / 4294967296)) + x % 4294967296 * (y % 4294967296) := by
    have ex : x = 4294967296 * (x / 4294967296) + x % 4294967296 := by omega
    have ey : y = 4294967296 * (y / 4294967296) + y % 4294967296 := by omega
    generalize x / 4294967296 = x1 at ex ⊢
    generalize x % 4294967296 = x0 at ex ⊢
    generalize y / 4294967296 = y1 at ey ⊢
    generalize y % 4294967296 = y0 at ey ⊢
    subst ex ey
    grind
  rw [hxy]
  generalize x / 4294967296 * (y / 4294967296) = p11 at *
  generalize x / 4294967296 * (y % 4294967296) = p10 at *
  generalize x % 4294967296 * (y / 4294967296) = p01 at *
  generalize x % 4294967296 * (y % 4294967296) = p00 at *
  clear hxy wl hx hy
  refine ⟨?_, ?_, ?_⟩ <;> omega
/-- Two words of x*y + c + d. -/
def MulAdd1 (x y c d hi lo : Int) : Prop := Lim hi ∧ Lim lo ∧ lo + 18446744073709551616 * hi = x * y + c + d
theorem prod_bd (x y : Int) (hx : Lim x) (hy : Lim y) : 0 ≤ x * y ∧ x * y ≤ 340282366920938463426481119284349108225 := by
  unfold Lim at *
  exact ⟨Int.mul_nonneg hx.1 hy.1, Int.le_trans (Int.mul_le_mul (show x ≤ 18446744073709551615 by omega) (show y ≤ 18446744073709551615 by omega) hy.1 (by omega)) (by decide)⟩
theorem mulAdd_ok {x y c d hi lo l1 k1 l2 k2 : Int} (hx : Lim x) (hy : Lim y) (hc : Lim c) (hd : Lim d) (h : Prod1 x y hi lo) (h1 : Sum1 lo c 0 l1 k1) (h2 : Sum1 l1 d 0 l2 k2) :
    MulAdd1 x y c d (IntKind.u64.wrap (IntKind.u64.wrap (hi + k1) + k2)) l2 := by
  have hb := prod_bd x y hx hy
  unfold MulAdd1 Prod1 Sum1 Lim at *
  simp only [IntKind.wrap_u64]
  generalize x * y = q at *
  refine ⟨?_, ?_, ?_⟩ <;> omega
end Go.Proofs.Ytgpcnmdaplkpoaa
