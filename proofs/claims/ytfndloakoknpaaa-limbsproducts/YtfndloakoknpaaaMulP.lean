/-
  The call of limbs.Mul: whatever the eight words, the lower and the upper four of their product; nothing old is turned.
-/
import Derived.Test.YtfndloakoknpaaaMul
import Derived.Test.YtfndloakoknpaaaMathC
namespace Go.Proofs.Ytfndloakoknpaaa
open Go.RowKit
theorem out_ok {a0 a1 a2 a3 b0 b1 b2 b3 : Int} (ha : Lim4 a0 a1 a2 a3) (hb : Lim4 b0 b1 b2 b3) {P : Nat → Int} (h : P = out (wd a0 a1 a2 a3) (wd b0 b1 b2 b3) 4) :
    Lim4 (P 0) (P 1) (P 2) (P 3) ∧ Lim4 (P 4) (P 5) (P 6) (P 7) ∧ MulP (val a0 a1 a2 a3) (val b0 b1 b2 b3) (val (P 0) (P 1) (P 2) (P 3)) (val (P 4) (P 5) (P 6) (P 7)) := by
  have z : Lim 0 := by unfold Lim; omega
  have e00 := hiloA_ok ha.1 hb.1 z z
  have e01 := hiloA_ok ha.1 hb.2.1 z e00.1
  have e02 := hiloA_ok ha.1 hb.2.2.1 z e01.1
  have e03 := hiloA_ok ha.1 hb.2.2.2 z e02.1
  have e10 := hiloA_ok ha.2.1 hb.1 e01.2.1 z
  have e11 := hiloA_ok ha.2.1 hb.2.1 e02.2.1 e10.1
  have e12 := hiloA_ok ha.2.1 hb.2.2.1 e03.2.1 e11.1
  have e13 := hiloA_ok ha.2.1 hb.2.2.2 e03.1 e12.1
  have e20 := hiloA_ok ha.2.2.1 hb.1 e11.2.1 z
  have e21 := hiloA_ok ha.2.2.1 hb.2.1 e12.2.1 e20.1
  have e22 := hiloA_ok ha.2.2.1 hb.2.2.1 e13.2.1 e21.1
  have e23 := hiloA_ok ha.2.2.1 hb.2.2.2 e13.1 e22.1
  have e30 := hiloA_ok ha.2.2.2 hb.1 e21.2.1 z
  have e31 := hiloA_ok ha.2.2.2 hb.2.1 e22.2.1 e30.1
  have e32 := hiloA_ok ha.2.2.2 hb.2.2.1 e23.2.1 e31.1
  have e33 := hiloA_ok ha.2.2.2 hb.2.2.2 e23.1 e32.1
  subst h
  exact mul16 e00 e01 e02 e03 e10 e11 e12 e13 e20 e21 e22 e23 e30 e31 e32 e33
theorem mul_any (a0 a1 a2 a3 b0 b1 b2 b3 : Int) (ha : Lim4 a0 a1 a2 a3) (hb : Lim4 b0 b1 b2 b3) (w : World) :
    Calls Try.prog 16 #[.agg #[.int .u64 a0, .int .u64 a1, .int .u64 a2, .int .u64 a3], .agg #[.int .u64 b0, .int .u64 b1, .int .u64 b2, .int .u64 b3]] w fun e w' =>
      ∃ l0 l1 l2 l3 h0 h1 h2 h3 : Int, e = .returned (.tuple #[.agg #[.int .u64 l0, .int .u64 l1, .int .u64 l2, .int .u64 l3], .agg #[.int .u64 h0, .int .u64 h1, .int .u64 h2, .int .u64 h3]]) ∧
        Hid (Lim4 l0 l1 l2 l3 ∧ Lim4 h0 h1 h2 h3 ∧ MulP (val a0 a1 a2 a3) (val b0 b1 b2 b3) (val l0 l1 l2 l3) (val h0 h1 h2 h3)) ∧ Ext w w' :=
  (mul_raw a0 a1 a2 a3 b0 b1 b2 b3 ha hb w).mono fun _ _ ⟨P, he, hP, hx⟩ => ⟨P 0, P 1, P 2, P 3, P 4, P 5, P 6, P 7, he, out_ok ha hb hP.out, hx⟩
end Go.Proofs.Ytfndloakoknpaaa
