/-
  scalar.Add, Sub, Mul, Order, Valid, called: numbers modulo q; nothing old is turned.
-/
import Derived.Test.YtnaiccfdbapdpaaDoorSd
import Derived.Test.YtnaiccfdbapdpaaDoorRefAs
namespace Go.Proofs.YtnaiccfdbapdpaaDoor
open Go.RowKit
theorem addP_true {x0 x1 x2 x3 y0 y1 y2 y3 s0 s1 s2 s3 : Int} (h : AddP x0 x1 x2 x3 y0 y1 y2 y3 s0 s1 s2 s3 true) : val s0 s1 s2 s3 + B256 * 1 = val x0 x1 x2 x3 + val y0 y1 y2 y3 := by
  have := h.2
  simp at this
  omega
theorem addP_false {x0 x1 x2 x3 y0 y1 y2 y3 s0 s1 s2 s3 : Int} (h : AddP x0 x1 x2 x3 y0 y1 y2 y3 s0 s1 s2 s3 false) : val s0 s1 s2 s3 = val x0 x1 x2 x3 + val y0 y1 y2 y3 := by
  have := h.2
  simp at this
  omega
set_option maxHeartbeats 400000 in
theorem sadd_any (x0 x1 x2 x3 y0 y1 y2 y3 : Int) (hx : Lim4 x0 x1 x2 x3) (hy : Lim4 y0 y1 y2 y3) (w : World) (hG : Gl w) :
    Calls Tryd.prog 40 #[.agg #[.int .u64 x0, .int .u64 x1, .int .u64 x2, .int .u64 x3], .agg #[.int .u64 y0, .int .u64 y1, .int .u64 y2, .int .u64 y3]] w fun e w' => ∃ r0 r1 r2 r3 : Int, e = .returned (.agg #[.int .u64 r0, .int .u64 r1, .int .u64 r2, .int .u64 r3]) ∧ Hid (QMod (val x0 x1 x2 x3 + val y0 y1 y2 y3) r0 r1 r2 r3) ∧ Ext w w' := by
  have RZ := RowF.new ((w.alloc (.cells #[.int .u64 x0, .int .u64 x1, .int .u64 x2, .int .u64 x3] 26)).alloc (.cells #[.int .u64 y0, .int .u64 y1, .int .u64 y2, .int .u64 y3] 26)) 0 0 0 0
  rw [show ((w.alloc (.cells #[.int .u64 x0, .int .u64 x1, .int .u64 x2, .int .u64 x3] 26)).alloc (.cells #[.int .u64 y0, .int .u64 y1, .int .u64 y2, .int .u64 y3] 26)).heap.size = w.heap.size + 1 + 1 from by simp] at RZ
  have HE0 : Hid (Ext w (((w.alloc (.cells #[.int .u64 x0, .int .u64 x1, .int .u64 x2, .int .u64 x3] 26)).alloc (.cells #[.int .u64 y0, .int .u64 y1, .int .u64 y2, .int .u64 y3] 26)).alloc (.cells #[.int .u64 0, .int .u64 0, .int .u64 0, .int .u64 0] 26))) := (((Ext.refl _).alloc _).alloc _).alloc _
  have HB : SizeLe w (w.heap.size + 1 + 1) := by unfold SizeLe; omega
  go_enter Tryd.func40, Tryd.ntmps40
  go_wp2_with fail
  refine (add_any _ _ _ _ _ _ _ _ hx hy _).mono ?_
  rintro e wx ⟨s0, s1, s2, s3, c, rfl, HS, HX⟩
  have RZ1 := (RZ.ext HX).ext ((Ext.refl _).alloc (.cells #[.int .u64 s0, .int .u64 s1, .int .u64 s2, .int .u64 s3] 26))
  have HE1 : Hid (Ext w (wx.alloc (.cells #[.int .u64 s0, .int .u64 s1, .int .u64 s2, .int .u64 s3] 26))) := (HE0.out.trans HX).alloc _
  have G1 := hG.ext HE1.out
  clear HX HE0 RZ
  generalize w.heap.size + 1 + 1 = bz at *
  have hs : Lim4 s0 s1 s2 s3 := HS.out.1
  cases c
  case true =>
    go_wp2_with fail
    refine (modulo_any _ _ _ _ 1 0 0 0 hs ⟨lim_of _ rfl, lim_of _ rfl, lim_of _ rfl, lim_of _ rfl⟩ _ G1).mono ?_
    rintro e wy ⟨r0, r1, r2, r3, rfl, HR, HX⟩
    obtain ⟨⟨lz, c0, c1, c2, c3⟩, f0, f1, f2, f3⟩ := RZ1.ext HX
    have HE2 : Hid (Ext w wy) := HE1.out.trans HX
    clear HX
    go_wp2
    refine bodyPost_ret (v := .agg #[.int .u64 r0, .int .u64 r1, .int .u64 r2, .int .u64 r3]) (by simp [results, Tryd.results40, go_sem, c0, c1, c2, c3]) rfl ⟨r0, r1, r2, r3, rfl, HR.out.cong (by rw [show val 1 0 0 0 = 1 from by decide, addP_true HS.out]), ?_⟩
    exact Ext.st HB (Ext.st HB (Ext.st HB (Ext.st HB HE2.out)))
  case false =>
    go_wp2_with fail
    refine (least_any _ _ _ _ hs _ G1).mono ?_
    rintro e wy ⟨r0, r1, r2, r3, rfl, HR, HX⟩
    obtain ⟨⟨lz, c0, c1, c2, c3⟩, f0, f1, f2, f3⟩ := RZ1.ext HX
    have HE2 : Hid (Ext w wy) := HE1.out.trans HX
    clear HX
    go_wp2
    refine bodyPost_ret (v := .agg #[.int .u64 r0, .int .u64 r1, .int .u64 r2, .int .u64 r3]) (by simp [results, Tryd.results40, go_sem, c0, c1, c2, c3]) rfl ⟨r0, r1, r2, r3, rfl, HR.out.cong (by rw [addP_false HS.out]), ?_⟩
    exact Ext.st HB (Ext.st HB (Ext.st HB (Ext.st HB HE2.out)))
def boolOf : Value → Bool | .bool b => b | _ => false
theorem ssub_start {x0 x1 x2 x3 y0 y1 y2 y3 s0 s1 s2 s3 : Int} {c : Bool} (h : SubP x0 x1 x2 x3 y0 y1 y2 y3 s0 s1 s2 s3 c) : (val s0 s1 s2 s3 - (if c then B256 else 0)) % FQ = (val x0 x1 x2 x3 - val y0 y1 y2 y3) % FQ := by
  have := h.2
  cases c <;> simp at this ⊢ <;> rw [this] <;> congr 1 <;> omega
theorem ssub_round {s0 s1 s2 s3 t0 t1 t2 t3 : Int} {c : Bool} (h : AddP s0 s1 s2 s3 17562291160714782033 13611842547513532036 18446744073709551615 18446744069414584320 t0 t1 t2 t3 c) : (val t0 t1 t2 t3 - (if !c then B256 else 0)) % FQ = (val s0 s1 s2 s3 - B256) % FQ := by
  have := h.2
  rw [val_FQ] at this
  cases c <;> simp at this ⊢
  · exact emodq_of 1 (by omega)
  · exact emodq_of 1 (by omega)
theorem ssub_less' {s0 s1 s2 s3 t0 t1 t2 t3 : Int} (hs : Lim4 s0 s1 s2 s3) (h : AddP s0 s1 s2 s3 17562291160714782033 13611842547513532036 18446744073709551615 18446744069414584320 t0 t1 t2 t3 false) : (B256 - val t0 t1 t2 t3).toNat < (B256 - val s0 s1 s2 s3).toNat := by
  have h1 := h.2
  rw [val_FQ] at h1
  have h2 := val_bd hs
  have h3 := val_bd h.1
  simp at h1
  unfold FQ at h1
  omega
set_option maxHeartbeats 1000000 in
theorem ssub_any (x0 x1 x2 x3 y0 y1 y2 y3 : Int) (hx : Lim4 x0 x1 x2 x3) (hy : Lim4 y0 y1 y2 y3) (w : World) (hG : Gl w) :
    Calls Tryd.prog 48 #[.agg #[.int .u64 x0, .int .u64 x1, .int .u64 x2, .int .u64 x3], .agg #[.int .u64 y0, .int .u64 y1, .int .u64 y2, .int .u64 y3]] w fun e w' => ∃ r0 r1 r2 r3 : Int, e = .returned (.agg #[.int .u64 r0, .int .u64 r1, .int .u64 r2, .int .u64 r3]) ∧ Hid (QMod (val x0 x1 x2 x3 - val y0 y1 y2 y3) r0 r1 r2 r3) ∧ Ext w w' := by
  have RZ := RowF.new ((w.alloc (.cells #[.int .u64 x0, .int .u64 x1, .int .u64 x2, .int .u64 x3] 26)).alloc (.cells #[.int .u64 y0, .int .u64 y1, .int .u64 y2, .int .u64 y3] 26)) 0 0 0 0
  rw [show ((w.alloc (.cells #[.int .u64 x0, .int .u64 x1, .int .u64 x2, .int .u64 x3] 26)).alloc (.cells #[.int .u64 y0, .int .u64 y1, .int .u64 y2, .int .u64 y3] 26)).heap.size = w.heap.size + 1 + 1 from by simp] at RZ
  have HE0 : Hid (Ext w (((w.alloc (.cells #[.int .u64 x0, .int .u64 x1, .int .u64 x2, .int .u64 x3] 26)).alloc (.cells #[.int .u64 y0, .int .u64 y1, .int .u64 y2, .int .u64 y3] 26)).alloc (.cells #[.int .u64 0, .int .u64 0, .int .u64 0, .int .u64 0] 26))) := (((Ext.refl _).alloc _).alloc _).alloc _
  have HB : SizeLe w (w.heap.size + 1 + 1) := by unfold SizeLe; omega
  go_enter Tryd.func48, Tryd.ntmps48
  go_wp2_with fail
  refine (sub_any _ _ _ _ _ _ _ _ hx hy _).mono ?_
  rintro e wx ⟨s0, s1, s2, s3, c, rfl, HS, HX⟩
  have RZ1 := (RZ.ext HX).ext ((Ext.refl _).alloc (.cells #[.int .u64 s0, .int .u64 s1, .int .u64 s2, .int .u64 s3] 26))
  have HE1 : Hid (Ext w (wx.alloc (.cells #[.int .u64 s0, .int .u64 s1, .int .u64 s2, .int .u64 s3] 26))) := (HE0.out.trans HX).alloc _
  have RS1 := RowF.new wx s0 s1 s2 s3
  have HNE : Hid (w.heap.size + 1 + 1 ≠ wx.heap.size) := by show _ ≠ _; have := (RZ.ext HX).1.1; omega
  have HB5 : SizeLe w wx.heap.size := (HE0.out.trans HX).size
  have HI0 : Hid (Lim4 s0 s1 s2 s3 ∧ (val s0 s1 s2 s3 - (if c then B256 else 0)) % FQ = (val x0 x1 x2 x3 - val y0 y1 y2 y3) % FQ) := ⟨HS.out.1, ssub_start HS.out⟩
  clear HX HE0 RZ HS
  generalize w.heap.size + 1 + 1 = bz at *
  generalize hb5 : wx.heap.size = b5 at *
  go_wp2
  go_loopw [6] (fun u6 wr => ∃ (s0 s1 s2 s3 : Int) (k : Bool), u6 = .bool k ∧ RowF wr b5 s0 s1 s2 s3 ∧ RowF wr bz 0 0 0 0 ∧ Hid (Lim4 s0 s1 s2 s3 ∧ (val s0 s1 s2 s3 - (if k then B256 else 0)) % FQ = (val x0 x1 x2 x3 - val y0 y1 y2 y3) % FQ) ∧ Hid (Ext w wr)) (fun u6 wr => if boolOf u6 then (B256 - val (cv wr b5 0) (cv wr b5 1) (cv wr b5 2) (cv wr b5 3)).toNat + 1 else 0)
  case atStart => exact ⟨s0, s1, s2, s3, c, rfl, RS1, RZ1, HI0, HE1⟩
  case round =>
    obtain ⟨s0, s1, s2, s3, k, rfl, RS, RZ, HI, HE⟩ := hrel
    clear RS1 RZ1 HE1 HI0
    obtain ⟨hl, g0, g1, g2, g3⟩ := (hG.ext HE.out).1
    have hs : Lim4 s0 s1 s2 s3 := HI.out.1
    have RS' := RS
    obtain ⟨⟨ls, a0, a1, a2, a3⟩, b0, b1, b2, b3⟩ := RS
    cases k
    case true =>
      go_wp2_with fail
      refine (add_any _ _ _ _ _ _ _ _ hs lim_FQ _).mono ?_
      rintro e wy ⟨t0, t1, t2, t3, q, rfl, HA, HX⟩
      have hne : b5 ≠ wy.heap.size := Nat.ne_of_lt (RS'.ext HX).1.1
      have RS2 := (RS'.ext HX).ext ((Ext.refl _).alloc (.cells #[.int .u64 t0, .int .u64 t1, .int .u64 t2, .int .u64 t3] 26))
      have RZ2 := (RZ.ext HX).ext ((Ext.refl _).alloc (.cells #[.int .u64 t0, .int .u64 t1, .int .u64 t2, .int .u64 t3] 26))
      have HE2 : Hid (Ext w (wy.alloc (.cells #[.int .u64 t0, .int .u64 t1, .int .u64 t2, .int .u64 t3] 26))) := (HE.out.trans HX).alloc _
      clear hl g0 g1 g2 g3 ls a0 a1 a2 a3 b0 b1 b2 b3 HX
      have RS3 := RS2
      obtain ⟨⟨ls, a0, a1, a2, a3⟩, b0, b1, b2, b3⟩ := RS2
      go_wp2
      go_roundw
      case rel => exact ⟨t0, t1, t2, t3, !q, rfl, RS3.set, (RZ2.other HNE.out |>.other HNE.out |>.other HNE.out |>.other HNE.out), ⟨HA.out.1, by rw [← HI.out.2]; exact ssub_round HA.out⟩, Ext.st HB5 (Ext.st HB5 (Ext.st HB5 (Ext.st HB5 HE2.out)))⟩
      case measure =>
        rw [cv_row (RS3.set (v0 := t0) (v1 := t1) (v2 := t2) (v3 := t3)).1, cv_row RS'.1]
        cases q <;> simp [boolOf]
        have := ssub_less' hs HA.out
        omega
    case false =>
      go_wp2_with fail
      refine (least_any _ _ _ _ hs _ (hG.ext HE.out)).mono ?_
      rintro e wy ⟨r0, r1, r2, r3, rfl, HR, HX⟩
      clear hl g0 g1 g2 g3 ls a0 a1 a2 a3 b0 b1 b2 b3
      obtain ⟨⟨lz, c0, c1, c2, c3⟩, f0, f1, f2, f3⟩ := RZ.ext HX
      have HE2 : Hid (Ext w wy) := HE.out.trans HX
      clear HX
      go_wp2
      refine bodyPost_ret (v := .agg #[.int .u64 r0, .int .u64 r1, .int .u64 r2, .int .u64 r3]) (by simp [results, Tryd.results48, go_sem, c0, c1, c2, c3]) rfl ⟨r0, r1, r2, r3, rfl, HR.out.cong (by have := HI.out.2; simpa using this), ?_⟩
      exact Ext.st HB (Ext.st HB (Ext.st HB (Ext.st HB HE2.out)))
set_option maxHeartbeats 400000 in
theorem smul_any (x0 x1 x2 x3 y0 y1 y2 y3 : Int) (hx : Lim4 x0 x1 x2 x3) (hy : Lim4 y0 y1 y2 y3) (w : World) (hG : Gl w) :
    Calls Tryd.prog 28 #[.agg #[.int .u64 x0, .int .u64 x1, .int .u64 x2, .int .u64 x3], .agg #[.int .u64 y0, .int .u64 y1, .int .u64 y2, .int .u64 y3]] w fun e w' => ∃ r0 r1 r2 r3 : Int, e = .returned (.agg #[.int .u64 r0, .int .u64 r1, .int .u64 r2, .int .u64 r3]) ∧ Hid (QMod (val x0 x1 x2 x3 * val y0 y1 y2 y3) r0 r1 r2 r3) ∧ Ext w w' := by
  have RZ := RowF.new ((w.alloc (.cells #[.int .u64 x0, .int .u64 x1, .int .u64 x2, .int .u64 x3] 26)).alloc (.cells #[.int .u64 y0, .int .u64 y1, .int .u64 y2, .int .u64 y3] 26)) 0 0 0 0
  rw [show ((w.alloc (.cells #[.int .u64 x0, .int .u64 x1, .int .u64 x2, .int .u64 x3] 26)).alloc (.cells #[.int .u64 y0, .int .u64 y1, .int .u64 y2, .int .u64 y3] 26)).heap.size = w.heap.size + 1 + 1 from by simp] at RZ
  have HE0 : Hid (Ext w (((w.alloc (.cells #[.int .u64 x0, .int .u64 x1, .int .u64 x2, .int .u64 x3] 26)).alloc (.cells #[.int .u64 y0, .int .u64 y1, .int .u64 y2, .int .u64 y3] 26)).alloc (.cells #[.int .u64 0, .int .u64 0, .int .u64 0, .int .u64 0] 26))) := (((Ext.refl _).alloc _).alloc _).alloc _
  have HB : SizeLe w (w.heap.size + 1 + 1) := by unfold SizeLe; omega
  go_enter Tryd.func28, Tryd.ntmps28
  go_wp2_with fail
  refine (mul_any _ _ _ _ _ _ _ _ hx hy _).mono ?_
  rintro e wx ⟨l0, l1, l2, l3, h0, h1, h2, h3, rfl, HM, HX⟩
  have RZ1 := RZ.ext HX
  have HE1 : Hid (Ext w wx) := HE0.out.trans HX
  have G1 := hG.ext HE1.out
  clear HX HE0 RZ
  generalize w.heap.size + 1 + 1 = bz at *
  go_wp2_with fail
  refine (modulo_any _ _ _ _ _ _ _ _ HM.out.1 HM.out.2.1 _ G1).mono ?_
  rintro e wy ⟨r0, r1, r2, r3, rfl, HR, HX⟩
  obtain ⟨⟨lz, c0, c1, c2, c3⟩, f0, f1, f2, f3⟩ := RZ1.ext HX
  have HE2 : Hid (Ext w wy) := HE1.out.trans HX
  clear HX
  go_wp2
  refine bodyPost_ret (v := .agg #[.int .u64 r0, .int .u64 r1, .int .u64 r2, .int .u64 r3]) (by simp [results, Tryd.results28, go_sem, c0, c1, c2, c3]) rfl ⟨r0, r1, r2, r3, rfl, HR.out.cong (by rw [HM.out.2.2]), ?_⟩
  exact Ext.st HB (Ext.st HB (Ext.st HB (Ext.st HB HE2.out)))
end Go.Proofs.YtnaiccfdbapdpaaDoor
