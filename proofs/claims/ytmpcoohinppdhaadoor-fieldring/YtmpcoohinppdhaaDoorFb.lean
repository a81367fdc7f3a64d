/-
  field.product, least, scaled, Mul, Prime, Valid, called where the package's variables hold what their initialisers lay: numbers modulo p; nothing old is turned.
-/
import Derived.Test.YtmpcoohinppdhaaDoorFa
import Derived.Test.YtmpcoohinppdhaaDoorCmpx
import Derived.Test.YtmpcoohinppdhaaDoorRefField
namespace Go.Proofs.YtmpcoohinppdhaaDoor
open Go.RowKit
/-- The package's variables hold what their initialisers lay. -/
def Gl (w : World) : Prop := Row w 0 18446744073709551615 4294967295 0 18446744069414584321 ∧ Row w 1 0 1073741824 4611686018427387904 4611686017353646080 ∧ Row w 2 18446744073709551613 4294967295 0 18446744069414584321 ∧ Row w 3 3 18446744056529682431 18446744073709551614 21474836477
theorem Gl.ext {w w' : World} (h : Gl w) (hx : Ext w w') : Gl w' := ⟨h.1.ext hx, h.2.1.ext hx, h.2.2.1.ext hx, h.2.2.2.ext hx⟩
set_option maxHeartbeats 1000000 in
theorem product_any (x0 x1 x2 x3 y0 y1 y2 y3 : Int) (hx : Lim4 x0 x1 x2 x3) (hy : Lim4 y0 y1 y2 y3) (w : World) :
    Calls Tryd.prog 28 #[.agg #[.int .u64 x0, .int .u64 x1, .int .u64 x2, .int .u64 x3], .agg #[.int .u64 y0, .int .u64 y1, .int .u64 y2, .int .u64 y3]] w fun e w' => ∃ r0 r1 r2 r3 : Int, e = .returned (.agg #[.int .u64 r0, .int .u64 r1, .int .u64 r2, .int .u64 r3]) ∧ Hid (FMod (val x0 x1 x2 x3 * val y0 y1 y2 y3 * RI) r0 r1 r2 r3) ∧ Ext w w' := by
  have RZ := RowF.new ((w.alloc (.cells #[.int .u64 x0, .int .u64 x1, .int .u64 x2, .int .u64 x3] 24)).alloc (.cells #[.int .u64 y0, .int .u64 y1, .int .u64 y2, .int .u64 y3] 24)) 0 0 0 0
  rw [show ((w.alloc (.cells #[.int .u64 x0, .int .u64 x1, .int .u64 x2, .int .u64 x3] 24)).alloc (.cells #[.int .u64 y0, .int .u64 y1, .int .u64 y2, .int .u64 y3] 24)).heap.size = w.heap.size + 1 + 1 from by simp] at RZ
  have HE0 : Hid (Ext w (((w.alloc (.cells #[.int .u64 x0, .int .u64 x1, .int .u64 x2, .int .u64 x3] 24)).alloc (.cells #[.int .u64 y0, .int .u64 y1, .int .u64 y2, .int .u64 y3] 24)).alloc (.cells #[.int .u64 0, .int .u64 0, .int .u64 0, .int .u64 0] 24))) := (((Ext.refl _).alloc _).alloc _).alloc _
  have HB : SizeLe w (w.heap.size + 1 + 1) := by unfold SizeLe; omega
  go_enter Tryd.func28, Tryd.ntmps28
  go_wp2_with fail
  refine (mul_any _ _ _ _ _ _ _ _ hx hy _).mono ?_
  rintro e wx ⟨l0, l1, l2, l3, h0, h1, h2, h3, rfl, HM, HX⟩
  have RZ1 := RZ.ext HX
  have HE1 : Hid (Ext w wx) := HE0.out.trans HX
  clear HX HE0 RZ
  generalize w.heap.size + 1 + 1 = bz at *
  go_wp2_with fail
  refine (shift_any _ _ _ _ HM.out.1 _).mono ?_
  rintro e _ ⟨u0, u1, u2, u3, rfl, S1, rfl⟩
  go_wp2_with fail
  refine (shift_any _ _ _ _ S1.out.1 _).mono ?_
  rintro e _ ⟨v0, v1, v2, v3, rfl, S2, rfl⟩
  go_wp2_with fail
  refine (shift_any _ _ _ _ S2.out.1 _).mono ?_
  rintro e _ ⟨s0, s1, s2, s3, rfl, S3, rfl⟩
  go_wp2_with fail
  refine (shift_any _ _ _ _ S3.out.1 _).mono ?_
  rintro e _ ⟨t0, t1, t2, t3, rfl, S4, rfl⟩
  obtain ⟨z0, k0, A0, e0⟩ := add64_any t0 h0 0 S4.out.1.1 HM.out.2.1.1 (by omega) (by omega)
  obtain ⟨z1, k1, A1, e1⟩ := add64_any t1 h1 k0 S4.out.1.2.1 HM.out.2.1.2.1 A0.out.2.1 A0.out.2.2.1
  obtain ⟨z2, k2, A2, e2⟩ := add64_any t2 h2 k1 S4.out.1.2.2.1 HM.out.2.1.2.2.1 A1.out.2.1 A1.out.2.2.1
  obtain ⟨z3, k3, A3, e3⟩ := add64_any t3 h3 k2 S4.out.1.2.2.2 HM.out.2.1.2.2.2 A2.out.2.1 A2.out.2.2.1
  have hk : Lim k3 := by have := A3.out.2.1; have := A3.out.2.2.1; unfold Lim; omega
  go_wp2_with fail
  refine (settle_any _ _ _ _ _ ⟨A0.out.1, A1.out.1, A2.out.1, A3.out.1⟩ hk _).mono ?_
  rintro e wy ⟨r0, r1, r2, r3, rfl, HR, HX⟩
  obtain ⟨⟨lz, c0, c1, c2, c3⟩, f0, f1, f2, f3⟩ := (RZ1.ext (((Ext.refl _).alloc _).alloc _)).ext HX
  have HE2 : Hid (Ext w wy) := ((HE1.out.alloc _).alloc _).trans HX
  clear HX
  go_wp2
  refine bodyPost_ret (v := .agg #[.int .u64 r0, .int .u64 r1, .int .u64 r2, .int .u64 r3]) (by simp [results, Tryd.results28, go_sem, c0, c1, c2, c3]) rfl ⟨r0, r1, r2, r3, rfl, product_of HM.out.2.2 S1.out S2.out S3.out S4.out A0.out A1.out A2.out A3.out HR.out, ?_⟩
  exact Ext.st HB (Ext.st HB (Ext.st HB (Ext.st HB HE2.out)))
set_option maxHeartbeats 400000 in
theorem least_any (x0 x1 x2 x3 : Int) (hx : Lim4 x0 x1 x2 x3) (w : World) :
    Calls Tryd.prog 19 #[.agg #[.int .u64 x0, .int .u64 x1, .int .u64 x2, .int .u64 x3]] w fun e w' => ∃ r0 r1 r2 r3 : Int, e = .returned (.agg #[.int .u64 r0, .int .u64 r1, .int .u64 r2, .int .u64 r3]) ∧ Hid (FMod (val x0 x1 x2 x3) r0 r1 r2 r3) ∧ Ext w w' := by
  have RZ := RowF.new (w.alloc (.cells #[.int .u64 x0, .int .u64 x1, .int .u64 x2, .int .u64 x3] 24)) 0 0 0 0
  rw [show (w.alloc (.cells #[.int .u64 x0, .int .u64 x1, .int .u64 x2, .int .u64 x3] 24)).heap.size = w.heap.size + 1 from by simp] at RZ
  have HE0 : Hid (Ext w ((w.alloc (.cells #[.int .u64 x0, .int .u64 x1, .int .u64 x2, .int .u64 x3] 24)).alloc (.cells #[.int .u64 0, .int .u64 0, .int .u64 0, .int .u64 0] 24))) := ((Ext.refl _).alloc _).alloc _
  have HB : SizeLe w (w.heap.size + 1) := by unfold SizeLe; omega
  go_enter Tryd.func19, Tryd.ntmps19
  go_wp2_with fail
  refine (settle_any _ _ _ _ _ hx (lim_of _ rfl) _).mono ?_
  rintro e wy ⟨r0, r1, r2, r3, rfl, HR, HX⟩
  obtain ⟨⟨lz, c0, c1, c2, c3⟩, f0, f1, f2, f3⟩ := RZ.ext HX
  have HE2 : Hid (Ext w wy) := HE0.out.trans HX
  clear HX
  go_wp2
  refine bodyPost_ret (v := .agg #[.int .u64 r0, .int .u64 r1, .int .u64 r2, .int .u64 r3]) (by simp [results, Tryd.results19, go_sem, c0, c1, c2, c3]) rfl ⟨r0, r1, r2, r3, rfl, HR.out.cong (by rw [Int.mul_zero, Int.add_zero]), ?_⟩
  exact Ext.st HB (Ext.st HB (Ext.st HB (Ext.st HB HE2.out)))
set_option maxHeartbeats 400000 in
theorem scaled_any (x0 x1 x2 x3 : Int) (hx : Lim4 x0 x1 x2 x3) (w : World) (hG : Gl w) :
    Calls Tryd.prog 27 #[.agg #[.int .u64 x0, .int .u64 x1, .int .u64 x2, .int .u64 x3]] w fun e w' => ∃ r0 r1 r2 r3 : Int, e = .returned (.agg #[.int .u64 r0, .int .u64 r1, .int .u64 r2, .int .u64 r3]) ∧ Hid (FMod (val x0 x1 x2 x3 * B256) r0 r1 r2 r3) ∧ Ext w w' := by
  have RZ := RowF.new (w.alloc (.cells #[.int .u64 x0, .int .u64 x1, .int .u64 x2, .int .u64 x3] 24)) 0 0 0 0
  rw [show (w.alloc (.cells #[.int .u64 x0, .int .u64 x1, .int .u64 x2, .int .u64 x3] 24)).heap.size = w.heap.size + 1 from by simp] at RZ
  have HE0 : Hid (Ext w ((w.alloc (.cells #[.int .u64 x0, .int .u64 x1, .int .u64 x2, .int .u64 x3] 24)).alloc (.cells #[.int .u64 0, .int .u64 0, .int .u64 0, .int .u64 0] 24))) := ((Ext.refl _).alloc _).alloc _
  have HB : SizeLe w (w.heap.size + 1) := by unfold SizeLe; omega
  obtain ⟨hl, g0, g1, g2, g3⟩ := hG.2.2.2
  clear hG
  go_enter Tryd.func27, Tryd.ntmps27
  go_wp2_with fail
  refine (product_any _ _ _ _ _ _ _ _ hx lim_R2 _).mono ?_
  rintro e wy ⟨r0, r1, r2, r3, rfl, HR, HX⟩
  obtain ⟨⟨lz, c0, c1, c2, c3⟩, f0, f1, f2, f3⟩ := RZ.ext HX
  have HE2 : Hid (Ext w wy) := HE0.out.trans HX
  have HF : Hid (FMod (val x0 x1 x2 x3 * B256) r0 r1 r2 r3) := by
    have h := HR.out
    rw [val_R2] at h
    exact scaled_of h
  clear HX hl g0 g1 g2 g3
  go_wp2
  refine bodyPost_ret (v := .agg #[.int .u64 r0, .int .u64 r1, .int .u64 r2, .int .u64 r3]) (by simp [results, Tryd.results27, go_sem, c0, c1, c2, c3]) rfl ⟨r0, r1, r2, r3, rfl, HF, ?_⟩
  exact Ext.st HB (Ext.st HB (Ext.st HB (Ext.st HB HE2.out)))
set_option maxHeartbeats 400000 in
theorem fmul_any (x0 x1 x2 x3 y0 y1 y2 y3 : Int) (hx : Lim4 x0 x1 x2 x3) (hy : Lim4 y0 y1 y2 y3) (w : World) (hG : Gl w) :
    Calls Tryd.prog 15 #[.agg #[.int .u64 x0, .int .u64 x1, .int .u64 x2, .int .u64 x3], .agg #[.int .u64 y0, .int .u64 y1, .int .u64 y2, .int .u64 y3]] w fun e w' => ∃ r0 r1 r2 r3 : Int, e = .returned (.agg #[.int .u64 r0, .int .u64 r1, .int .u64 r2, .int .u64 r3]) ∧ Hid (FMod (val x0 x1 x2 x3 * val y0 y1 y2 y3) r0 r1 r2 r3) ∧ Ext w w' := by
  have RZ := RowF.new ((w.alloc (.cells #[.int .u64 x0, .int .u64 x1, .int .u64 x2, .int .u64 x3] 24)).alloc (.cells #[.int .u64 y0, .int .u64 y1, .int .u64 y2, .int .u64 y3] 24)) 0 0 0 0
  rw [show ((w.alloc (.cells #[.int .u64 x0, .int .u64 x1, .int .u64 x2, .int .u64 x3] 24)).alloc (.cells #[.int .u64 y0, .int .u64 y1, .int .u64 y2, .int .u64 y3] 24)).heap.size = w.heap.size + 1 + 1 from by simp] at RZ
  have HE0 : Hid (Ext w (((w.alloc (.cells #[.int .u64 x0, .int .u64 x1, .int .u64 x2, .int .u64 x3] 24)).alloc (.cells #[.int .u64 y0, .int .u64 y1, .int .u64 y2, .int .u64 y3] 24)).alloc (.cells #[.int .u64 0, .int .u64 0, .int .u64 0, .int .u64 0] 24))) := (((Ext.refl _).alloc _).alloc _).alloc _
  have HB : SizeLe w (w.heap.size + 1 + 1) := by unfold SizeLe; omega
  have G0 := hG.ext HE0.out
  go_enter Tryd.func15, Tryd.ntmps15
  go_wp2_with fail
  refine (product_any _ _ _ _ _ _ _ _ hx hy _).mono ?_
  rintro e wx ⟨m0, m1, m2, m3, rfl, HM, HX⟩
  have RZ1 := RZ.ext HX
  have HE1 : Hid (Ext w wx) := HE0.out.trans HX
  have G1 := G0.ext HX
  clear HX HE0 RZ G0
  go_wp2_with fail
  refine (scaled_any _ _ _ _ HM.out.1 _ G1).mono ?_
  rintro e wy ⟨r0, r1, r2, r3, rfl, HR, HX⟩
  obtain ⟨⟨lz, c0, c1, c2, c3⟩, f0, f1, f2, f3⟩ := RZ1.ext HX
  have HE2 : Hid (Ext w wy) := HE1.out.trans HX
  clear HX
  go_wp2
  refine bodyPost_ret (v := .agg #[.int .u64 r0, .int .u64 r1, .int .u64 r2, .int .u64 r3]) (by simp [results, Tryd.results15, go_sem, c0, c1, c2, c3]) rfl ⟨r0, r1, r2, r3, rfl, fmul_of HM.out HR.out, ?_⟩
  exact Ext.st HB (Ext.st HB (Ext.st HB (Ext.st HB HE2.out)))
set_option maxHeartbeats 400000 in
theorem fprime_any (w : World) (hG : Gl w) : Calls Tryd.prog 12 #[] w fun e w' => e = .returned (.agg #[.int .u64 18446744073709551615, .int .u64 4294967295, .int .u64 0, .int .u64 18446744069414584321]) ∧ Ext w w' := by
  obtain ⟨hl, g0, g1, g2, g3⟩ := hG.1
  clear hG
  go_enter Tryd.func12, Tryd.ntmps12
  go_wp2
  refine bodyPost_ret (v := .agg #[.int .u64 18446744073709551615, .int .u64 4294967295, .int .u64 0, .int .u64 18446744069414584321]) (by simp [results, Tryd.results12, go_sem]) rfl ⟨rfl, ?_⟩
  exact (Ext.refl _).alloc _
set_option maxHeartbeats 400000 in
theorem fvalid_any (x0 x1 x2 x3 : Int) (hx : Lim4 x0 x1 x2 x3) (w : World) (hG : Gl w) :
    Calls Tryd.prog 10 #[.agg #[.int .u64 x0, .int .u64 x1, .int .u64 x2, .int .u64 x3]] w fun e w' => e = .returned (.bool (decide (val x0 x1 x2 x3 < FP))) ∧ Ext w w' := by
  obtain ⟨hl, g0, g1, g2, g3⟩ := hG.1
  clear hG
  go_enter Tryd.func10, Tryd.ntmps10
  go_wp2_with fail
  refine (cmp_any _ _ _ _ _ _ _ _ hx lim_FP _).mono ?_
  rintro e wy ⟨n, rfl, HC, HX⟩
  have HC2 : Hid (CmpP (val x0 x1 x2 x3) FP n) := by
    have h := HC.out
    rw [val_FP] at h
    exact h
  go_wp2
  go_ret
  exact ⟨by rw [← cmp_less HC2.out]; rfl, ((Ext.refl _).alloc _).trans HX⟩
end Go.Proofs.YtmpcoohinppdhaaDoor
