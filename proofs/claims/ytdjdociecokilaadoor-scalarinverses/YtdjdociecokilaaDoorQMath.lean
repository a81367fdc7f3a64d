/-
  Numbers modulo q, the order: no Go in this text.
-/
import Derived.Test.YtdjdociecokilaaDoorMathC
namespace Go.Proofs.YtdjdociecokilaaDoor
/-- The order. -/
def FQ : Int := 115792089210356248762697446949407573529996955224135760342422259061068512044369
theorem val_FQ : val 17562291160714782033 13611842547513532036 18446744073709551615 18446744069414584320 = FQ := by decide
theorem lim_FQ : Lim4 17562291160714782033 13611842547513532036 18446744073709551615 18446744069414584320 := by unfold Lim4 Lim; decide
theorem FQ_pos : (0 : Int) < FQ := by decide
/-- A number modulo q. -/
def QMod (x r0 r1 r2 r3 : Int) : Prop := Lim4 r0 r1 r2 r3 ∧ val r0 r1 r2 r3 = x % FQ
theorem QMod.less {x r0 r1 r2 r3 : Int} (h : QMod x r0 r1 r2 r3) : val r0 r1 r2 r3 < FQ := by
  rw [h.2]; exact Int.emod_lt_of_pos _ FQ_pos
theorem QMod.cong {x y r0 r1 r2 r3 : Int} (h : QMod x r0 r1 r2 r3) (e : x % FQ = y % FQ) : QMod y r0 r1 r2 r3 := ⟨h.1, h.2.trans e⟩
theorem QMod.one {x y a0 a1 a2 a3 b0 b1 b2 b3 : Int} (h : QMod x a0 a1 a2 a3) (k : QMod y b0 b1 b2 b3) (e : x % FQ = y % FQ) : a0 = b0 ∧ a1 = b1 ∧ a2 = b2 ∧ a3 = b3 :=
  val_inj h.1 k.1 (by rw [h.2, k.2, e])
theorem emodq_of {a b : Int} (c : Int) (h : a = b + FQ * c) : a % FQ = b % FQ := by rw [h, Int.add_mul_emod_self_left]
theorem qmod_less {x0 x1 x2 x3 : Int} (hx : Lim4 x0 x1 x2 x3) (h : val x0 x1 x2 x3 < FQ) : QMod (val x0 x1 x2 x3) x0 x1 x2 x3 :=
  ⟨hx, (Int.emod_eq_of_lt (val_bd hx).1 h).symm⟩
theorem modq_mul_mod (x y : Int) : (x % FQ * y) % FQ = (x * y) % FQ := by rw [Int.mul_emod, Int.emod_emod_of_dvd _ (Int.dvd_refl _), ← Int.mul_emod]
theorem mul_modq_mod (x y : Int) : (x * (y % FQ)) % FQ = (x * y) % FQ := by rw [Int.mul_emod, Int.emod_emod_of_dvd _ (Int.dvd_refl _), ← Int.mul_emod]
end Go.Proofs.YtdjdociecokilaaDoor
