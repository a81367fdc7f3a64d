/-
  What limbs.Mul's loops come to: the eight words are the product.
-/
import Derived.Test.YtgpcnmdaplkpoaaMathB
namespace Go.Proofs.Ytgpcnmdaplkpoaa
/-- The lower four words and the upper four are those of the product. -/
def MulP (a b lo hi : Int) : Prop := lo + B256 * hi = a * b
theorem mul16 {a0 a1 a2 a3 b0 b1 b2 b3 l00 h00 l01 h01 l02 h02 l03 h03 l10 h10 l11 h11 l12 h12 l13 h13 l20 h20 l21 h21 l22 h22 l23 h23 l30 h30 l31 h31 l32 h32 l33 h33 : Int}
    (e00 : MulAdd1 a0 b0 0 0 h00 l00) (e01 : MulAdd1 a0 b1 0 h00 h01 l01) (e02 : MulAdd1 a0 b2 0 h01 h02 l02) (e03 : MulAdd1 a0 b3 0 h02 h03 l03)
    (e10 : MulAdd1 a1 b0 l01 0 h10 l10) (e11 : MulAdd1 a1 b1 l02 h10 h11 l11) (e12 : MulAdd1 a1 b2 l03 h11 h12 l12) (e13 : MulAdd1 a1 b3 h03 h12 h13 l13)
    (e20 : MulAdd1 a2 b0 l11 0 h20 l20) (e21 : MulAdd1 a2 b1 l12 h20 h21 l21) (e22 : MulAdd1 a2 b2 l13 h21 h22 l22) (e23 : MulAdd1 a2 b3 h13 h22 h23 l23)
    (e30 : MulAdd1 a3 b0 l21 0 h30 l30) (e31 : MulAdd1 a3 b1 l22 h30 h31 l31) (e32 : MulAdd1 a3 b2 l23 h31 h32 l32) (e33 : MulAdd1 a3 b3 h23 h32 h33 l33) :
    Lim4 l00 l10 l20 l30 ∧ Lim4 l31 l32 l33 h33 ∧ MulP (val a0 a1 a2 a3) (val b0 b1 b2 b3) (val l00 l10 l20 l30) (val l31 l32 l33 h33) := by
  refine ⟨⟨e00.2.1, e10.2.1, e20.2.1, e30.2.1⟩, ⟨e31.2.1, e32.2.1, e33.2.1, e33.1⟩, ?_⟩
  have q00 := e00.2.2; have q01 := e01.2.2; have q02 := e02.2.2; have q03 := e03.2.2
  have q10 := e10.2.2; have q11 := e11.2.2; have q12 := e12.2.2; have q13 := e13.2.2
  have q20 := e20.2.2; have q21 := e21.2.2; have q22 := e22.2.2; have q23 := e23.2.2
  have q30 := e30.2.2; have q31 := e31.2.2; have q32 := e32.2.2; have q33 := e33.2.2
  clear e00 e01 e02 e03 e10 e11 e12 e13 e20 e21 e22 e23 e30 e31 e32 e33
  unfold MulP
  have hp : val a0 a1 a2 a3 * val b0 b1 b2 b3 = a0 * b0 + 18446744073709551616 * (a0 * b1 + a1 * b0 + 18446744073709551616 * (a0 * b2 + a1 * b1 + a2 * b0 + 18446744073709551616 * (a0 * b3 + a1 * b2 + a2 * b1 + a3 * b0 + 18446744073709551616 * (a1 * b3 + a2 * b2 + a3 * b1 + 18446744073709551616 * (a2 * b3 + a3 * b2 + 18446744073709551616 * (a3 * b3)))))) := by
    unfold val
    grind
  rw [hp]
  clear hp
  unfold val B256
  generalize a0 * b0 = m00 at *
  generalize a0 * b1 = m01 at *
  generalize a0 * b2 = m02 at *
  generalize a0 * b3 = m03 at *
  generalize a1 * b0 = m10 at *
  generalize a1 * b1 = m11 at *
  generalize a1 * b2 = m12 at *
  generalize a1 * b3 = m13 at *
  generalize a2 * b0 = m20 at *
  generalize a2 * b1 = m21 at *
  generalize a2 * b2 = m22 at *
  generalize a2 * b3 = m23 at *
  generalize a3 * b0 = m30 at *
  generalize a3 * b1 = m31 at *
  generalize a3 * b2 = m32 at *
  generalize a3 * b3 = m33 at *
  omega
end Go.Proofs.Ytgpcnmdaplkpoaa
