/-
  ScalarSums, walked: it answers true; nothing old is turned.
-/
import Derived.Test.YtdjdociecokilaaDoorSFn
namespace Go.Proofs.YtdjdociecokilaaDoor
open Go.RowKit
attribute [local go_sem] run_eq4
set_option maxHeartbeats 8000000 in
theorem sums_any (a0 a1 a2 a3 b0 b1 b2 b3 : Int) (ha : Lim4 a0 a1 a2 a3) (hb : Lim4 b0 b1 b2 b3) (w : World) (hG : Gl w) :
    Calls Tryd.prog 3 #[.agg #[.int .u64 a0, .int .u64 a1, .int .u64 a2, .int .u64 a3], .agg #[.int .u64 b0, .int .u64 b1, .int .u64 b2, .int .u64 b3]] w fun e w' => e = .returned (.bool true) ∧ Ext w w' := by
  have RT := Row.two w a0 a1 a2 a3 b0 b1 b2 b3
  have R1 := RT.1
  have R2 := RT.2
  have HE0 : Hid (Ext w ((w.alloc (.cells #[.int .u64 a0, .int .u64 a1, .int .u64 a2, .int .u64 a3] 24)).alloc (.cells #[.int .u64 b0, .int .u64 b1, .int .u64 b2, .int .u64 b3] 24))) := ((Ext.refl _).alloc _).alloc _
  have G0 := hG.ext HE0.out
  clear RT hG
  obtain ⟨s0, s1, s2, s3, HS⟩ := qmod_ex (val a0 a1 a2 a3 + val b0 b1 b2 b3)
  obtain ⟨d0, d1, d2, d3, HD⟩ := qmod_ex (val a0 a1 a2 a3 - val b0 b1 b2 b3)
  obtain ⟨v, HV⟩ : ∃ v, Hid (decide (val a0 a1 a2 a3 < FQ) = v) := ⟨_, rfl⟩
  have M6 : Hid (∀ wx, Gl wx → Calls Tryd.prog 9 #[.agg #[.int .u64 a0, .int .u64 a1, .int .u64 a2, .int .u64 a3], .agg #[.int .u64 b0, .int .u64 b1, .int .u64 b2, .int .u64 b3]] wx fun e w' => e = .returned (.agg #[.int .u64 s0, .int .u64 s1, .int .u64 s2, .int .u64 s3]) ∧ Ext wx w') := fun wx h => sadd_fn ha hb HS.out rfl wx h
  have M7 : Hid (∀ wx, Calls Tryd.prog 10 #[.agg #[.int .u64 a0, .int .u64 a1, .int .u64 a2, .int .u64 a3], .agg #[.int .u64 b0, .int .u64 b1, .int .u64 b2, .int .u64 b3]] wx fun e w' => e = .returned (.agg #[.int .u64 s0, .int .u64 s1, .int .u64 s2, .int .u64 s3]) ∧ Ext wx w') := fun wx => rsadd_fn ha hb HS.out rfl wx
  have M8 : Hid (∀ wx, Gl wx → Calls Tryd.prog 11 #[.agg #[.int .u64 a0, .int .u64 a1, .int .u64 a2, .int .u64 a3], .agg #[.int .u64 b0, .int .u64 b1, .int .u64 b2, .int .u64 b3]] wx fun e w' => e = .returned (.agg #[.int .u64 d0, .int .u64 d1, .int .u64 d2, .int .u64 d3]) ∧ Ext wx w') := fun wx h => ssub_fn ha hb HD.out rfl wx h
  have M9 : Hid (∀ wx, Calls Tryd.prog 12 #[.agg #[.int .u64 a0, .int .u64 a1, .int .u64 a2, .int .u64 a3], .agg #[.int .u64 b0, .int .u64 b1, .int .u64 b2, .int .u64 b3]] wx fun e w' => e = .returned (.agg #[.int .u64 d0, .int .u64 d1, .int .u64 d2, .int .u64 d3]) ∧ Ext wx w') := fun wx => rssub_fn ha hb HD.out rfl wx
  have M10 : Hid (∀ wx, Gl wx → Calls Tryd.prog 13 #[.agg #[.int .u64 a0, .int .u64 a1, .int .u64 a2, .int .u64 a3]] wx fun e w' => e = .returned (.bool v) ∧ Ext wx w') := fun wx h => HV.out ▸ svalid_any _ _ _ _ ha wx h
  have M11 : Hid (∀ wx, Calls Tryd.prog 14 #[.agg #[.int .u64 a0, .int .u64 a1, .int .u64 a2, .int .u64 a3]] wx fun e w' => e = .returned (.bool v) ∧ Ext wx w') := fun wx => HV.out ▸ refSValid_any _ _ _ _ ha wx
  have q1 := eq4_self s0 s1 s2 s3
  have q2 := eq4_self d0 d1 d2 d3
  have q3 := eq4_self 17562291160714782033 13611842547513532036 18446744073709551615 18446744069414584320
  clear HS HD HV
  go_enter Tryd.func3, Tryd.ntmps3
  go_wp2_with fail
  generalize ((w.alloc (.cells #[.int .u64 a0, .int .u64 a1, .int .u64 a2, .int .u64 a3] 24)).alloc (.cells #[.int .u64 b0, .int .u64 b1, .int .u64 b2, .int .u64 b3] 24)) = W0 at *
  generalize w.heap.size + 1 = cb at *
  generalize w.heap.size = bb at *
  go_region_held3 (fun wx : World => Ext W0 wx ∧ wx.cell? ⟨bb, 0, none⟩ = some (.int .u64 a0) ∧ wx.cell? ⟨bb, 1, none⟩ = some (.int .u64 a1) ∧ wx.cell? ⟨bb, 2, none⟩ = some (.int .u64 a2) ∧ wx.cell? ⟨bb, 3, none⟩ = some (.int .u64 a3) ∧ wx.cell? ⟨cb, 0, none⟩ = some (.int .u64 b0) ∧ wx.cell? ⟨cb, 1, none⟩ = some (.int .u64 b1) ∧ wx.cell? ⟨cb, 2, none⟩ = some (.int .u64 b2) ∧ wx.cell? ⟨cb, 3, none⟩ = some (.int .u64 b3)) (first | exact keep2 (Ext.drew (Ext.refl _)) R1 R2 | exact keep2 (by assumption) R1 R2) (first | (go_at_call 9; refine (M6.out _ (G0.ext (by simp only [*]))).mono ?_; rintro e wy ⟨rfl, HX⟩; have hEy : Ext W0 wy := (by refine Ext.trans ?_ HX; simp only [*])) | (go_at_call 10; refine (M7.out _).mono ?_; rintro e wy ⟨rfl, HX⟩; have hEy : Ext W0 wy := (by refine Ext.trans ?_ HX; simp only [*])) | (go_at_call 11; refine (M8.out _ (G0.ext (by simp only [*]))).mono ?_; rintro e wy ⟨rfl, HX⟩; have hEy : Ext W0 wy := (by refine Ext.trans ?_ HX; simp only [*])) | (go_at_call 12; refine (M9.out _).mono ?_; rintro e wy ⟨rfl, HX⟩; have hEy : Ext W0 wy := (by refine Ext.trans ?_ HX; simp only [*])) | (go_at_call 13; refine (M10.out _ (G0.ext (by simp only [*]))).mono ?_; rintro e wy ⟨rfl, HX⟩; have hEy : Ext W0 wy := (by refine Ext.trans ?_ HX; simp only [*])) | (go_at_call 14; refine (M11.out _).mono ?_; rintro e wy ⟨rfl, HX⟩; have hEy : Ext W0 wy := (by refine Ext.trans ?_ HX; simp only [*])) | (go_at_call 15; refine (sorder_any _ (G0.ext (by simp only [*]))).mono ?_; rintro e wy ⟨rfl, HX⟩; have hEy : Ext W0 wy := (by refine Ext.trans ?_ HX; simp only [*])) | (go_at_call 16; refine (refOrder_any _).mono ?_; rintro e wy ⟨rfl, HX⟩; have hEy : Ext W0 wy := (by refine Ext.trans ?_ HX; simp only [*])) | (go_at_call 17; refine (awake_any _ (G0.ext (by simp only [*]))).mono ?_; rintro e wy ⟨rfl, HX⟩; have hEy : Ext W0 wy := (by refine Ext.trans ?_ HX; simp only [*])))
  all_goals
    have hE : Ext w wy := HE0.out.trans hEy
    clear hEy q1 q2 q3
    go_wp2
    go_ret
    exact ⟨rfl, hE⟩
end Go.Proofs.YtdjdociecokilaaDoor
