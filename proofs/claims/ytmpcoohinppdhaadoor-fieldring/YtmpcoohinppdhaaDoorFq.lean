/-
  field.Inv and field.Sqrt, called: the power by p - 2; the even root, or that there is none; nothing old is turned.
-/
import Derived.Test.YtmpcoohinppdhaaDoorFp
import Derived.Test.YtmpcoohinppdhaaDoorSMath
import Derived.Test.YtmpcoohinppdhaaDoorBitx
namespace Go.Proofs.YtmpcoohinppdhaaDoor
open Go.RowKit
def RP (X : Int) : Int := X ^ RQ
def IP (X : Int) : Int := X ^ IQ
theorem power_root (x0 x1 x2 x3 : Int) (hx : Lim4 x0 x1 x2 x3) (w : World) (hG : Gl w) :
    Calls Tryd.prog 29 #[.agg #[.int .u64 x0, .int .u64 x1, .int .u64 x2, .int .u64 x3], .agg #[.int .u64 0, .int .u64 1073741824, .int .u64 4611686018427387904, .int .u64 4611686017353646080]] w fun e w' => ∃ r0 r1 r2 r3 : Int, e = .returned (.agg #[.int .u64 r0, .int .u64 r1, .int .u64 r2, .int .u64 r3]) ∧ Hid (FMod (RP (val x0 x1 x2 x3)) r0 r1 r2 r3) ∧ Ext w w' :=
  (power_any _ _ _ _ _ _ _ _ hx lim_root w hG).mono fun _ _ ⟨r0, r1, r2, r3, h1, h2, h3⟩ => ⟨r0, r1, r2, r3, h1, (by have h := h2.out; rw [val_root] at h; exact h), h3⟩
theorem power_inv (x0 x1 x2 x3 : Int) (hx : Lim4 x0 x1 x2 x3) (w : World) (hG : Gl w) :
    Calls Tryd.prog 29 #[.agg #[.int .u64 x0, .int .u64 x1, .int .u64 x2, .int .u64 x3], .agg #[.int .u64 18446744073709551613, .int .u64 4294967295, .int .u64 0, .int .u64 18446744069414584321]] w fun e w' => ∃ r0 r1 r2 r3 : Int, e = .returned (.agg #[.int .u64 r0, .int .u64 r1, .int .u64 r2, .int .u64 r3]) ∧ Hid (FMod (IP (val x0 x1 x2 x3)) r0 r1 r2 r3) ∧ Ext w w' :=
  (power_any _ _ _ _ _ _ _ _ hx lim_inv w hG).mono fun _ _ ⟨r0, r1, r2, r3, h1, h2, h3⟩ => ⟨r0, r1, r2, r3, h1, (by have h := h2.out; rw [val_inv] at h; exact h), h3⟩
set_option maxHeartbeats 400000 in
theorem finv_any (x0 x1 x2 x3 : Int) (hx : Lim4 x0 x1 x2 x3) (w : World) (hG : Gl w) :
    Calls Tryd.prog 26 #[.agg #[.int .u64 x0, .int .u64 x1, .int .u64 x2, .int .u64 x3]] w fun e w' => ∃ r0 r1 r2 r3 : Int, e = .returned (.agg #[.int .u64 r0, .int .u64 r1, .int .u64 r2, .int .u64 r3]) ∧ Hid (FMod (IP (val x0 x1 x2 x3)) r0 r1 r2 r3) ∧ Ext w w' := by
  have RZ := RowF.new (w.alloc (.cells #[.int .u64 x0, .int .u64 x1, .int .u64 x2, .int .u64 x3] 24)) 0 0 0 0
  rw [show (w.alloc (.cells #[.int .u64 x0, .int .u64 x1, .int .u64 x2, .int .u64 x3] 24)).heap.size = w.heap.size + 1 from by simp] at RZ
  have HE0 : Hid (Ext w ((w.alloc (.cells #[.int .u64 x0, .int .u64 x1, .int .u64 x2, .int .u64 x3] 24)).alloc (.cells #[.int .u64 0, .int .u64 0, .int .u64 0, .int .u64 0] 24))) := ((Ext.refl _).alloc _).alloc _
  have HB : SizeLe w (w.heap.size + 1) := by unfold SizeLe; omega
  have G0 := hG.ext HE0.out
  obtain ⟨hl, g0, g1, g2, g3⟩ := hG.2.2.1
  clear hG
  go_enter Tryd.func26, Tryd.ntmps26
  go_wp2_with fail
  refine (power_inv _ _ _ _ hx _ G0).mono ?_
  rintro e wy ⟨r0, r1, r2, r3, rfl, HR, HX⟩
  obtain ⟨⟨lz, c0, c1, c2, c3⟩, f0, f1, f2, f3⟩ := RZ.ext HX
  have HE2 : Hid (Ext w wy) := HE0.out.trans HX
  clear HX hl g0 g1 g2 g3
  go_wp2
  refine bodyPost_ret (v := .agg #[.int .u64 r0, .int .u64 r1, .int .u64 r2, .int .u64 r3]) (by simp [results, Tryd.results26, go_sem, c0, c1, c2, c3]) rfl ⟨r0, r1, r2, r3, rfl, HR, ?_⟩
  exact Ext.st HB (Ext.st HB (Ext.st HB (Ext.st HB HE2.out)))
theorem and1 (x : Int) (h : Lim x) : bits BinOp.and IntKind.u64 x 1 = x % 2 := by
  have := bits_mask .u64 64 (by decide) (fun n p q => by rw [IntKind.wrap_u64]; have : (2 : Int) ^ 64 = 18446744073709551616 := by decide
                                                         omega) 1 (by decide) x h.1 (by rw [show (2 : Int) ^ 64 = 18446744073709551616 from by decide]; exact h.2)
  rw [show (2 : Int) ^ 1 - 1 = 1 from by decide, show (2 : Int) ^ 1 = 2 from by decide] at this
  exact this
theorem bit_low (t0 t1 t2 t3 : Int) (ht : Lim4 t0 t1 t2 t3) (w : World) : Calls Tryd.prog 30 #[.agg #[.int .u64 t0, .int .u64 t1, .int .u64 t2, .int .u64 t3], .int .i64 0] w fun e w' => e = .returned (.bool (decide (t0 % 2 = 1))) ∧ Ext w w' :=
  (bit_in t0 t1 t2 t3 0 (by omega) w).mono fun _ _ h => ⟨(show bitV (wd t0 t1 t2 t3 (0 / 64)) 0 = decide (t0 % 2 = 1) from by
    show (bits BinOp.and IntKind.u64 (t0 / 2 ^ 0) 1 == 1) = _
    rw [Int.pow_zero, Int.ediv_one, and1 _ ht.1]
    rfl) ▸ h.1, h.2⟩
attribute [local go_sem] run_eq4
set_option maxHeartbeats 2000000 in
theorem sqrt_any (x0 x1 x2 x3 : Int) (hx : Lim4 x0 x1 x2 x3) (w : World) (hG : Gl w) :
    Calls Tryd.prog 16 #[.agg #[.int .u64 x0, .int .u64 x1, .int .u64 x2, .int .u64 x3]] w fun e w' => ∃ (r0 r1 r2 r3 : Int) (ok : Bool), e = .returned (.tuple #[.agg #[.int .u64 r0, .int .u64 r1, .int .u64 r2, .int .u64 r3], .bool ok]) ∧ Hid (SqrtP (val x0 x1 x2 x3) r0 r1 r2 r3 ok) ∧ Ext w w' := by
  have RZ := RowF.new (w.alloc (.cells #[.int .u64 x0, .int .u64 x1, .int .u64 x2, .int .u64 x3] 24)) 0 0 0 0
  rw [show (w.alloc (.cells #[.int .u64 x0, .int .u64 x1, .int .u64 x2, .int .u64 x3] 24)).heap.size = w.heap.size + 1 from by simp] at RZ
  have HE0 : Hid (Ext w ((w.alloc (.cells #[.int .u64 x0, .int .u64 x1, .int .u64 x2, .int .u64 x3] 24)).alloc (.cells #[.int .u64 0, .int .u64 0, .int .u64 0, .int .u64 0] 24))) := ((Ext.refl _).alloc _).alloc _
  have HB : SizeLe w (w.heap.size + 1) := by unfold SizeLe; omega
  have RX := (Row.new w x0 x1 x2 x3).ext ((Ext.refl _).alloc (.cells #[.int .u64 0, .int .u64 0, .int .u64 0, .int .u64 0] 24))
  have G0 := hG.ext HE0.out
  obtain ⟨hl, g0, g1, g2, g3⟩ := G0.2.1
  clear hG
  go_enter Tryd.func16, Tryd.ntmps16
  go_wp2_with fail
  refine (power_root _ _ _ _ hx _ G0).mono ?_
  rintro e wx ⟨t0, t1, t2, t3, rfl, HR, HX⟩
  have RT := RowF.new wx t0 t1 t2 t3
  have HXa : Ext (((w.alloc (.cells #[.int .u64 x0, .int .u64 x1, .int .u64 x2, .int .u64 x3] 24))).alloc (.cells #[.int .u64 0, .int .u64 0, .int .u64 0, .int .u64 0] 24)) (wx.alloc (.cells #[.int .u64 t0, .int .u64 t1, .int .u64 t2, .int .u64 t3] 24)) := HX.alloc _
  have R2 := RX.ext HXa
  have RZ1 := RZ.ext HXa
  have HE1 : Hid (Ext w (wx.alloc (.cells #[.int .u64 t0, .int .u64 t1, .int .u64 t2, .int .u64 t3] 24))) := HE0.out.trans HXa
  have HN : Hid (w.heap.size + 1 ≠ wx.heap.size) := by show _ ≠ _; have := (RZ.ext HX).1.1; omega
  have HB4 : SizeLe w wx.heap.size := (HE0.out.trans HX).size
  have G1 := G0.ext HXa
  clear HX HXa hl g0 g1 g2 g3 RX RZ HE0 G0
  go_wp2_with fail
  generalize wx.alloc (.cells #[.int .u64 t0, .int .u64 t1, .int .u64 t2, .int .u64 t3] 24) = W0 at *
  generalize wx.heap.size = b4 at *
  generalize w.heap.size + 1 = bz at *
  generalize w.heap.size = b at *
  have R1 := RT.1
  have ht := HR.out.1
  go_region_held3 (fun wx : World => Ext W0 wx ∧ wx.cell? ⟨b4, 0, none⟩ = some (.int .u64 t0) ∧ wx.cell? ⟨b4, 1, none⟩ = some (.int .u64 t1) ∧ wx.cell? ⟨b4, 2, none⟩ = some (.int .u64 t2) ∧ wx.cell? ⟨b4, 3, none⟩ = some (.int .u64 t3) ∧ wx.cell? ⟨b, 0, none⟩ = some (.int .u64 x0) ∧ wx.cell? ⟨b, 1, none⟩ = some (.int .u64 x1) ∧ wx.cell? ⟨b, 2, none⟩ = some (.int .u64 x2) ∧ wx.cell? ⟨b, 3, none⟩ = some (.int .u64 x3)) (first | exact keep2 (Ext.drew (Ext.refl _)) R1 R2 | exact keep2 (by assumption) R1 R2) (first | (go_at_call 15; refine (fmul_any _ _ _ _ _ _ _ _ ht ht _ (G1.ext (by simp only [*]))).mono ?_; rintro e wy ⟨m0, m1, m2, m3, rfl, HMm, HX⟩; have hEy : Ext W0 wy := (by refine Ext.trans ?_ HX; simp only [*])) | (go_at_call 19; refine (least_any _ _ _ _ hx _).mono ?_; rintro e wy ⟨l0, l1, l2, l3, rfl, HLl, HX⟩; have hEy : Ext W0 wy := (by refine Ext.trans ?_ HX; simp only [*])))
  all_goals
    have RT2 := RT.ext hEy
    have RZ2 := RZ1.ext hEy
    have G2 := G1.ext hEy
    have HE2 : Hid (Ext w wy) := HE1.out.trans hEy
    clear RT RZ1 G1 HE1 R1 R2 hEy
    cases hq : eq4 m0 m1 m2 m3 l0 l1 l2 l3
    · have HS : Hid (SqrtP (val x0 x1 x2 x3) 0 0 0 0 false) := sqrt_none HR.out HMm.out HLl.out (fun h => by have := (eq4_iff HMm.out.1 HLl.out.1).2 h; simp [hq] at this)
      obtain ⟨⟨lz, c0, c1, c2, c3⟩, f0, f1, f2, f3⟩ := RZ2
      clear HMm HLl HR
      go_wp2
      refine bodyPost_ret (v := .tuple #[.agg #[.int .u64 0, .int .u64 0, .int .u64 0, .int .u64 0], .bool false]) (by simp [results, Tryd.results16, go_sem, c0, c1, c2, c3]) rfl ⟨0, 0, 0, 0, false, rfl, HS, ?_⟩
      exact Ext.st HB (Ext.st HB (Ext.st HB (Ext.st HB HE2.out)))
    · have HQ : Hid (val m0 m1 m2 m3 = val l0 l1 l2 l3) := (eq4_iff HMm.out.1 HLl.out.1).1 hq
      obtain ⟨⟨lt, a0, a1, a2, a3⟩, b0, b1, b2, b3⟩ := RT2
      go_wp2_with fail
      refine (bit_low _ _ _ _ ht _).mono ?_
      rintro e wz ⟨rfl, HX5⟩
      have RT3 := (show RowF wy b4 t0 t1 t2 t3 from ⟨⟨lt, a0, a1, a2, a3⟩, b0, b1, b2, b3⟩).ext HX5
      have RZ3 := RZ2.ext HX5
      have G3 := G2.ext HX5
      have HE3 : Hid (Ext w wz) := HE2.out.trans HX5
      clear lt a0 a1 a2 a3 b0 b1 b2 b3 RZ2 G2 HE2 HX5
      by_cases ho : t0 % 2 = 1
      · have hod : decide (t0 % 2 = 1) = true := by simpa using ho
        have HO : Hid (t0 % 2 = 1) := ho
        rw [hod]
        clear ho hod
        have RT4 := RT3
        obtain ⟨⟨lt, a0, a1, a2, a3⟩, b0, b1, b2, b3⟩ := RT3
        obtain ⟨hl, g0, g1, g2, g3⟩ := G3.1
        go_wp2_with fail
        refine (fsub_any _ _ _ _ _ _ _ _ lim_FP ht _ G3).mono ?_
        rintro e wv ⟨r0, r1, r2, r3, rfl, HS, HX6⟩
        have HF : Hid (SqrtP (val x0 x1 x2 x3) r0 r1 r2 r3 true) := by
          have h := HS.out
          rw [val_FP] at h
          exact sqrt_odd HR.out HMm.out HLl.out HQ.out HO.out h
        clear lt a0 a1 a2 a3 b0 b1 b2 b3 hl g0 g1 g2 g3 HS HR HMm HLl HQ HO G3
        obtain ⟨⟨lt, a0, a1, a2, a3⟩, b0, b1, b2, b3⟩ := RT4.ext HX6
        obtain ⟨⟨lz, c0, c1, c2, c3⟩, f0, f1, f2, f3⟩ := RZ3.ext HX6
        have HE4 : Hid (Ext w wv) := HE3.out.trans HX6
        have hnn : bz ≠ b4 := HN.out
        have hnm : b4 ≠ bz := fun h => hnn h.symm
        clear HX6 RT4 RZ3
        go_wp2
        refine bodyPost_ret (v := .tuple #[.agg #[.int .u64 r0, .int .u64 r1, .int .u64 r2, .int .u64 r3], .bool true]) (by simp [results, Tryd.results16, go_sem, c0, c1, c2, c3]) rfl ⟨r0, r1, r2, r3, true, rfl, HF, ?_⟩
        exact Ext.st HB (Ext.st HB (Ext.st HB (Ext.st HB (Ext.st HB4 (Ext.st HB4 (Ext.st HB4 (Ext.st HB4 HE4.out)))))))
      · have hod : decide (t0 % 2 = 1) = false := by simpa using ho
        have HF : Hid (SqrtP (val x0 x1 x2 x3) t0 t1 t2 t3 true) := sqrt_even HR.out HMm.out HLl.out HQ.out (by omega)
        rw [hod]
        clear ho hod HR HMm HLl HQ G3
        obtain ⟨⟨lt, a0, a1, a2, a3⟩, b0, b1, b2, b3⟩ := RT3
        obtain ⟨⟨lz, c0, c1, c2, c3⟩, f0, f1, f2, f3⟩ := RZ3
        go_wp2
        refine bodyPost_ret (v := .tuple #[.agg #[.int .u64 t0, .int .u64 t1, .int .u64 t2, .int .u64 t3], .bool true]) (by simp [results, Tryd.results16, go_sem, c0, c1, c2, c3]) rfl ⟨t0, t1, t2, t3, true, rfl, HF, ?_⟩
        exact Ext.st HB (Ext.st HB (Ext.st HB (Ext.st HB HE3.out)))
end Go.Proofs.YtmpcoohinppdhaaDoor
