/-
  The document's half modulo q and product modulo q (sandglassref03.halved, Mul), called; nothing old is turned.
-/
import Derived.Test.YtnaiccfdbapdpaaDoorRefHalf
import Derived.Test.YtnaiccfdbapdpaaDoorRefWide
import Derived.Test.YtnaiccfdbapdpaaDoorRefMul
namespace Go.Proofs.YtnaiccfdbapdpaaDoor
open Go.RowKit
/-- Half of a number modulo q. -/
def HvP (x0 x1 x2 x3 r0 r1 r2 r3 : Int) : Prop := Lim4 r0 r1 r2 r3 ∧ val r0 r1 r2 r3 < FQ ∧ (2 * val r0 r1 r2 r3 = val x0 x1 x2 x3 ∨ 2 * val r0 r1 r2 r3 = val x0 x1 x2 x3 + FQ)
theorem hv_even {x0 x1 x2 x3 r0 r1 r2 r3 : Int} (hx : Lim4 x0 x1 x2 x3) (hl : val x0 x1 x2 x3 < FQ) (h : HalfP x0 x1 x2 x3 false r0 r1 r2 r3) (he : x0 % 2 = 0) : HvP x0 x1 x2 x3 r0 r1 r2 r3 := by
  have h2 := h.2
  have h3 := (val_bd hx).1
  have h4 : val x0 x1 x2 x3 % 2 = 0 := by unfold val; omega
  simp at h2
  exact ⟨h.1, by omega, .inl (by omega)⟩
theorem hv_odd {x0 x1 x2 x3 s0 s1 s2 s3 r0 r1 r2 r3 : Int} {c : Bool} (hl : val x0 x1 x2 x3 < FQ) (hs : AddP x0 x1 x2 x3 17562291160714782033 13611842547513532036 18446744073709551615 18446744069414584320 s0 s1 s2 s3 c) (h : HalfP s0 s1 s2 s3 c r0 r1 r2 r3) (he : ¬ x0 % 2 = 0) : HvP x0 x1 x2 x3 r0 r1 r2 r3 := by
  have h2 := h.2
  have h3 := hs.2
  rw [val_FQ] at h3
  have h4 : val x0 x1 x2 x3 % 2 = 1 := by unfold val; omega
  have h5 : FQ % 2 = 1 := by decide
  refine ⟨h.1, ?_, .inr ?_⟩
  · cases c <;> simp at h2 h3 <;> omega
  · cases c <;> simp at h2 h3 <;> omega
set_option maxHeartbeats 2000000 in
theorem refhalved_any (x0 x1 x2 x3 : Int) (hx : Lim4 x0 x1 x2 x3) (hl : val x0 x1 x2 x3 < FQ) (w : World) :
    Calls Tryd.prog 51 #[.agg #[.int .u64 x0, .int .u64 x1, .int .u64 x2, .int .u64 x3]] w fun e w' => ∃ r0 r1 r2 r3 : Int, e = .returned (.agg #[.int .u64 r0, .int .u64 r1, .int .u64 r2, .int .u64 r3]) ∧ Hid (HvP x0 x1 x2 x3 r0 r1 r2 r3) ∧ Ext w w' := by
  have HL : Hid (val x0 x1 x2 x3 < FQ) := hl
  have RA := (Row.new w x0 x1 x2 x3).ext ((Ext.refl _).alloc (.cells #[.int .u64 0, .int .u64 0, .int .u64 0, .int .u64 0] 26))
  have RZ := RowF.new (w.alloc (.cells #[.int .u64 x0, .int .u64 x1, .int .u64 x2, .int .u64 x3] 26)) 0 0 0 0
  rw [show (w.alloc (.cells #[.int .u64 x0, .int .u64 x1, .int .u64 x2, .int .u64 x3] 26)).heap.size = w.heap.size + 1 from by simp] at RZ
  have HE0 : Hid (Ext w ((w.alloc (.cells #[.int .u64 x0, .int .u64 x1, .int .u64 x2, .int .u64 x3] 26)).alloc (.cells #[.int .u64 0, .int .u64 0, .int .u64 0, .int .u64 0] 26))) := ((Ext.refl _).alloc _).alloc _
  have HB : SizeLe w (w.heap.size + 1) := by unfold SizeLe; omega
  clear hl
  by_cases he : x0 % 2 = 0
  · have HEv : Hid (x0 % 2 = 0) := he
    have htm : x0.tmod 2 = 0 := by rw [Int.tmod_eq_emod_of_nonneg hx.1.1]; exact he
    go_enter Tryd.func51, Tryd.ntmps51
    go_wp2_with fail
    refine (refhalf_any _ _ _ _ _ hx _).mono ?_
    rintro e wy ⟨r0, r1, r2, r3, rfl, HR, HX⟩
    obtain ⟨⟨lz, c0, c1, c2, c3⟩, f0, f1, f2, f3⟩ := RZ.ext HX
    have HE2 : Hid (Ext w wy) := HE0.out.trans HX
    clear HX
    go_wp2
    refine bodyPost_ret (v := .agg #[.int .u64 r0, .int .u64 r1, .int .u64 r2, .int .u64 r3]) (by simp [results, Tryd.results51, go_sem, c0, c1, c2, c3]) rfl ⟨r0, r1, r2, r3, rfl, hv_even hx HL.out HR.out HEv.out, ?_⟩
    exact Ext.st HB (Ext.st HB (Ext.st HB (Ext.st HB HE2.out)))
  · have HEv : Hid (¬ x0 % 2 = 0) := he
    have he2 : (x0.tmod 2 == 0) = false := by rw [Int.tmod_eq_emod_of_nonneg hx.1.1]; simpa using he
    have HM : Hid (∀ wx, Calls Tryd.prog 43 #[.agg #[.int .u64 x0, .int .u64 x1, .int .u64 x2, .int .u64 x3], .agg #[.int .u64 17562291160714782033, .int .u64 13611842547513532036, .int .u64 18446744073709551615, .int .u64 18446744069414584320]] wx fun e w' => ∃ (s0 s1 s2 s3 : Int) (c : Bool), e = .returned (.tuple #[.agg #[.int .u64 s0, .int .u64 s1, .int .u64 s2, .int .u64 s3], .bool c]) ∧ Hid (AddP x0 x1 x2 x3 17562291160714782033 13611842547513532036 18446744073709551615 18446744069414584320 s0 s1 s2 s3 c) ∧ Ext wx w') := fun wx => refAdd_raw x0 x1 x2 x3 _ _ _ _ hx lim_FQ wx
    go_enter Tryd.func51, Tryd.ntmps51
    go_wp2_with fail
    generalize (w.alloc (.cells #[.int .u64 x0, .int .u64 x1, .int .u64 x2, .int .u64 x3] 26)).alloc (.cells #[.int .u64 0, .int .u64 0, .int .u64 0, .int .u64 0] 26) = W0 at *
    generalize w.heap.size + 1 = bz at *
    generalize w.heap.size = b at *
    go_cut [3, 4] (fun s3 s4 wx => ∃ (b3 : Nat) (d0 d1 d2 d3 : Int) (c : Bool), s3 = .pointer (some ⟨b3, 0, none⟩) ∧ s4 = .bool c ∧ Row wx b3 d0 d1 d2 d3 ∧ Hid (AddP x0 x1 x2 x3 17562291160714782033 13611842547513532036 18446744073709551615 18446744069414584320 d0 d1 d2 d3 c) ∧ Ext W0 wx)
    case first =>
      have hl0 : W0.heap.size ≤ W0.heap.size := Nat.le_refl _
      have hl1 : W0.heap.size ≤ W0.heap.size + 1 := Nat.le_succ _
      go_region_held3 (fun wx : World => Ext W0 wx ∧ wx.cell? ⟨b, 0, none⟩ = some (.int .u64 x0) ∧ wx.cell? ⟨b, 1, none⟩ = some (.int .u64 x1) ∧ wx.cell? ⟨b, 2, none⟩ = some (.int .u64 x2) ∧ wx.cell? ⟨b, 3, none⟩ = some (.int .u64 x3)) ((refine keep1 ?_ RA; simp (maxDischargeDepth := 30) only [extAlloc, extDrew, Ext.st, Ext.refl, *])) (first | (go_at_call 24; refine (refOrder_any _).mono ?_; rintro e wy ⟨rfl, HX⟩; have hEy : Ext W0 wy := (by refine Ext.trans ?_ HX; simp only [*]); have hz0 : W0.heap.size ≤ wy.heap.size := hEy.size; have hz1 : W0.heap.size ≤ wy.heap.size + 1 := Nat.le_succ_of_le hz0; have htr : ∀ b, b < _ → b < wy.heap.size := (fun b h => Nat.lt_of_lt_of_le h HX.size); have hsz := HX.size; (try simp at hsz); (try have hs1 := Nat.lt_of_succ_le hsz); (try have hs2 := Nat.lt_of_succ_lt (Nat.lt_of_succ_le hsz)); obtain ⟨hcc, hff⟩ := HX.cells; (try simp at hcc); (try simp at hff)) | (go_at_call 43; refine (HM.out _).mono ?_; rintro e wy ⟨d0, d1, d2, d3, c, rfl, HD, HX⟩; have hEy : Ext W0 wy := (by refine Ext.trans ?_ HX; simp only [*]); have hz0 : W0.heap.size ≤ wy.heap.size := hEy.size; have hz1 : W0.heap.size ≤ wy.heap.size + 1 := Nat.le_succ_of_le hz0; have htr : ∀ b, b < _ → b < wy.heap.size := (fun b h => Nat.lt_of_lt_of_le h HX.size); have hsz := HX.size; (try simp at hsz); (try have hs1 := Nat.lt_of_succ_le hsz); (try have hs2 := Nat.lt_of_succ_lt (Nat.lt_of_succ_le hsz)); obtain ⟨hcc, hff⟩ := HX.cells; (try simp at hcc); (try simp at hff)))
      all_goals
        go_wp2
        go_meet
        case rel => exact ⟨_, d0, d1, d2, d3, c, rfl, rfl, ⟨by simp [*], (by first | (go_simp; done) | (go_simp; exact World.cell?_setCell_same' _ _ _ (by go_simp))), (by first | (go_simp; done) | (go_simp; exact World.cell?_setCell_same' _ _ _ (by go_simp))), (by first | (go_simp; done) | (go_simp; exact World.cell?_setCell_same' _ _ _ (by go_simp))), (by first | (go_simp; done) | (go_simp; exact World.cell?_setCell_same' _ _ _ (by go_simp)))⟩, HD, by simp only [*]⟩
    case rest =>
      obtain ⟨b3, d0, d1, d2, d3, c, rfl, rfl, R3, HD, HXc⟩ := hcut
      have RZ1 := RZ.ext HXc
      have HE1 : Hid (Ext w wc) := HE0.out.trans HXc
      obtain ⟨l3, e0, e1, e2, e3⟩ := R3
      clear HXc RZ HE0 RA
      go_wp2_with fail
      refine (refhalf_any _ _ _ _ _ HD.out.1 _).mono ?_
      rintro e wy ⟨r0, r1, r2, r3, rfl, HR, HX⟩
      obtain ⟨⟨lz, c0, c1, c2, c3⟩, f0, f1, f2, f3⟩ := RZ1.ext HX
      have HE2 : Hid (Ext w wy) := HE1.out.trans HX
      clear HX l3 e0 e1 e2 e3
      go_wp2
      refine bodyPost_ret (v := .agg #[.int .u64 r0, .int .u64 r1, .int .u64 r2, .int .u64 r3]) (by simp [results, Tryd.results51, go_sem, c0, c1, c2, c3]) rfl ⟨r0, r1, r2, r3, rfl, hv_odd HL.out HD.out HR.out HEv.out, ?_⟩
      exact Ext.st HB (Ext.st HB (Ext.st HB (Ext.st HB HE2.out)))
set_option maxHeartbeats 1000000 in
theorem refSMul_any (x0 x1 x2 x3 y0 y1 y2 y3 : Int) (hx : Lim4 x0 x1 x2 x3) (hy : Lim4 y0 y1 y2 y3) (w : World) :
    Calls Tryd.prog 30 #[.agg #[.int .u64 x0, .int .u64 x1, .int .u64 x2, .int .u64 x3], .agg #[.int .u64 y0, .int .u64 y1, .int .u64 y2, .int .u64 y3]] w fun e w' => ∃ r0 r1 r2 r3 : Int, e = .returned (.agg #[.int .u64 r0, .int .u64 r1, .int .u64 r2, .int .u64 r3]) ∧ Hid (QMod (val x0 x1 x2 x3 * val y0 y1 y2 y3) r0 r1 r2 r3) ∧ Ext w w' := by
  have RZ := RowF.new ((w.alloc (.cells #[.int .u64 x0, .int .u64 x1, .int .u64 x2, .int .u64 x3] 26)).alloc (.cells #[.int .u64 y0, .int .u64 y1, .int .u64 y2, .int .u64 y3] 26)) 0 0 0 0
  rw [show ((w.alloc (.cells #[.int .u64 x0, .int .u64 x1, .int .u64 x2, .int .u64 x3] 26)).alloc (.cells #[.int .u64 y0, .int .u64 y1, .int .u64 y2, .int .u64 y3] 26)).heap.size = w.heap.size + 1 + 1 from by simp] at RZ
  have HE0 : Hid (Ext w (((w.alloc (.cells #[.int .u64 x0, .int .u64 x1, .int .u64 x2, .int .u64 x3] 26)).alloc (.cells #[.int .u64 y0, .int .u64 y1, .int .u64 y2, .int .u64 y3] 26)).alloc (.cells #[.int .u64 0, .int .u64 0, .int .u64 0, .int .u64 0] 26))) := (((Ext.refl _).alloc _).alloc _).alloc _
  have HB : SizeLe w (w.heap.size + 1 + 1) := by unfold SizeLe; omega
  go_enter Tryd.func30, Tryd.ntmps30
  go_wp2_with fail
  refine (refMul_any _ _ _ _ _ _ _ _ hx hy _).mono ?_
  rintro e wx ⟨l0, l1, l2, l3, h0, h1, h2, h3, rfl, HM, HX⟩
  have RZ1 := (RZ.ext HX).ext (((Ext.refl _).alloc (.cells #[.int .u64 l0, .int .u64 l1, .int .u64 l2, .int .u64 l3] 26)).alloc (.cells #[.int .u64 h0, .int .u64 h1, .int .u64 h2, .int .u64 h3] 26))
  have HE1 : Hid (Ext w ((wx.alloc (.cells #[.int .u64 l0, .int .u64 l1, .int .u64 l2, .int .u64 l3] 26)).alloc (.cells #[.int .u64 h0, .int .u64 h1, .int .u64 h2, .int .u64 h3] 26))) := ((HE0.out.trans HX).alloc _).alloc _
  clear HX HE0 RZ
  generalize w.heap.size + 1 + 1 = bz at *
  go_wp2_with fail
  refine (refwide_any _ _ _ _ _ _ _ _ HM.out.1 HM.out.2.1 _).mono ?_
  rintro e wy ⟨r0, r1, r2, r3, rfl, HR, HX⟩
  obtain ⟨⟨lz, c0, c1, c2, c3⟩, f0, f1, f2, f3⟩ := RZ1.ext HX
  have HE2 : Hid (Ext w wy) := HE1.out.trans HX
  have HF : Hid (QMod (val x0 x1 x2 x3 * val y0 y1 y2 y3) r0 r1 r2 r3) := by
    have h := HR.out
    rwa [show val l0 l1 l2 l3 + B256 * val h0 h1 h2 h3 = val x0 x1 x2 x3 * val y0 y1 y2 y3 from HM.out.2.2] at h
  clear HX HR
  go_wp2
  refine bodyPost_ret (v := .agg #[.int .u64 r0, .int .u64 r1, .int .u64 r2, .int .u64 r3]) (by simp [results, Tryd.results30, go_sem, c0, c1, c2, c3]) rfl ⟨r0, r1, r2, r3, rfl, HF, ?_⟩
  exact Ext.st HB (Ext.st HB (Ext.st HB (Ext.st HB HE2.out)))
end Go.Proofs.YtnaiccfdbapdpaaDoor
