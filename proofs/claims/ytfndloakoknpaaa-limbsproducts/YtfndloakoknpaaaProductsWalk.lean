/-
  The walk of the statement LimbsProducts: true, whatever the two numbers; nothing old is turned.
-/
import Derived.Test.YtfndloakoknpaaaPartsWalk
import Derived.Test.YtfndloakoknpaaaRefMul
namespace Go.Proofs.Ytfndloakoknpaaa
open Go.RowKit
theorem mulP_two {a b x0 x1 x2 x3 y0 y1 y2 y3 u0 u1 u2 u3 v0 v1 v2 v3 : Int} (h : Lim4 x0 x1 x2 x3 ∧ Lim4 y0 y1 y2 y3 ∧ MulP a b (val x0 x1 x2 x3) (val y0 y1 y2 y3)) (k : Lim4 u0 u1 u2 u3 ∧ Lim4 v0 v1 v2 v3 ∧ MulP a b (val u0 u1 u2 u3) (val v0 v1 v2 v3)) :
    (u0 = x0 ∧ u1 = x1 ∧ u2 = x2 ∧ u3 = x3) ∧ (v0 = y0 ∧ v1 = y1 ∧ v2 = y2 ∧ v3 = y3) :=
  mulP_one h ⟨k.1, k.2.1, by have := k.2.2; unfold MulP at *; rw [Int.mul_comm b a]; exact this⟩
attribute [local go_sem] run_eq4
set_option maxHeartbeats 2000000 in
theorem products_any (a0 a1 a2 a3 b0 b1 b2 b3 : Int) (ha : Lim4 a0 a1 a2 a3) (hb : Lim4 b0 b1 b2 b3) (w : World) :
    Calls Try.prog 4 #[.agg #[.int .u64 a0, .int .u64 a1, .int .u64 a2, .int .u64 a3], .agg #[.int .u64 b0, .int .u64 b1, .int .u64 b2, .int .u64 b3]] w fun e w' => e = .returned (.bool true) ∧ Ext w w' := by
  have R0 := Row.two w a0 a1 a2 a3 b0 b1 b2 b3
  have HE0 : Hid (Ext w ((w.alloc (.cells #[.int .u64 a0, .int .u64 a1, .int .u64 a2, .int .u64 a3] 24)).alloc (.cells #[.int .u64 b0, .int .u64 b1, .int .u64 b2, .int .u64 b3] 24))) := ((Ext.refl _).alloc _).alloc _
  go_enter Try.func4, Try.ntmps4
  go_wp2_with fail
  refine (mul_any _ _ _ _ _ _ _ _ ha hb _).mono ?_
  rintro e w1 ⟨x0, x1, x2, x3, y0, y1, y2, y3, rfl, HM1, HX⟩
  have RA := R0.1.ext HX
  have RB := R0.2.ext HX
  clear R0
  have HEw1 : Hid (Ext w w1) := (HE0.out).trans HX
  clear HX HE0
  generalize w.heap.size + 1 = bb at *
  generalize w.heap.size = ba at *
  obtain ⟨zRA, xRA0, xRA1, xRA2, xRA3⟩ := RA
  have RA : Row w1 ba a0 a1 a2 a3 := ⟨zRA, xRA0, xRA1, xRA2, xRA3⟩
  obtain ⟨zRB, xRB0, xRB1, xRB2, xRB3⟩ := RB
  have RB : Row w1 bb b0 b1 b2 b3 := ⟨zRB, xRB0, xRB1, xRB2, xRB3⟩
  go_wp2_with fail
  refine (refMul_any _ _ _ _ _ _ _ _ ha hb _).mono ?_
  rintro e w2 ⟨u0, u1, u2, u3, v0, v1, v2, v3, rfl, HM2, HX⟩
  obtain ⟨⟨rfl, rfl, rfl, rfl⟩, ⟨rfl, rfl, rfl, rfl⟩⟩ := mulP_two HM2.out HM1.out
  clear HM2 HM1
  have HEw2 : Hid (Ext w w2) := (((HEw1.out.alloc _).alloc _)).trans HX
  replace RA := RA.ext (((((Ext.refl _).alloc _).alloc _)).trans HX)
  replace RB := RB.ext (((((Ext.refl _).alloc _).alloc _)).trans HX)
  have Rb5 := (Row.two w1 x0 x1 x2 x3 y0 y1 y2 y3).1.ext HX
  have Rb6 := (Row.two w1 x0 x1 x2 x3 y0 y1 y2 y3).2.ext HX
  clear zRA xRA0 xRA1 xRA2 xRA3 zRB xRB0 xRB1 xRB2 xRB3
  clear HX HEw1
  generalize w1.heap.size + 1 = b6 at *
  generalize w1.heap.size = b5 at *
  clear RA
  clear RB
  have qx : eq4 x0 x1 x2 x3 x0 x1 x2 x3 = true := by simp [eq4]
  have qy : eq4 y0 y1 y2 y3 y0 y1 y2 y3 = true := by simp [eq4]
  obtain ⟨zRb5, xRb50, xRb51, xRb52, xRb53⟩ := Rb5
  have Rb5 : Row w2 b5 x0 x1 x2 x3 := ⟨zRb5, xRb50, xRb51, xRb52, xRb53⟩
  obtain ⟨zRb6, xRb60, xRb61, xRb62, xRb63⟩ := Rb6
  have Rb6 : Row w2 b6 y0 y1 y2 y3 := ⟨zRb6, xRb60, xRb61, xRb62, xRb63⟩
  go_wp2_with fail
  refine (long_any _).mono ?_
  rintro e w3 ⟨rfl, HX⟩
  have HEw3 : Hid (Ext w w3) := (((HEw2.out.alloc _).alloc _)).trans HX
  replace Rb5 := Rb5.ext (((((Ext.refl _).alloc _).alloc _)).trans HX)
  replace Rb6 := Rb6.ext (((((Ext.refl _).alloc _).alloc _)).trans HX)
  have Rb7 := (Row.two w2 x0 x1 x2 x3 y0 y1 y2 y3).1.ext HX
  have Rb8 := (Row.two w2 x0 x1 x2 x3 y0 y1 y2 y3).2.ext HX
  clear zRb5 xRb50 xRb51 xRb52 xRb53 zRb6 xRb60 xRb61 xRb62 xRb63
  clear HX HEw2
  generalize w2.heap.size + 1 = b8 at *
  generalize w2.heap.size = b7 at *
  go_wp2_with fail
  refine (awake_any _).mono ?_
  rintro e w4 ⟨rfl, HX⟩
  have HEw4 : Hid (Ext w w4) := (HEw3.out).trans HX
  replace Rb5 := Rb5.ext (((Ext.refl _)).trans HX)
  replace Rb6 := Rb6.ext (((Ext.refl _)).trans HX)
  replace Rb7 := Rb7.ext (((Ext.refl _)).trans HX)
  replace Rb8 := Rb8.ext (((Ext.refl _)).trans HX)
  clear HX HEw3
  go_wp2
  go_ret
  exact ⟨rfl, HEw4.out⟩
end Go.Proofs.Ytfndloakoknpaaa
