/-
  The document's numbers modulo the order (sandglassref03.Order, Valid, Mod, Add, Sub), called: numbers modulo q; nothing old is turned.
-/
import Derived.Test.YtdjdociecokilaaDoorRowf
import Derived.Test.YtdjdociecokilaaDoorQMath
import Derived.Test.YtdjdociecokilaaDoorRefAddx
import Derived.Test.YtdjdociecokilaaDoorRefSubx
import Derived.Test.YtdjdociecokilaaDoorRefCmpx
import Derived.Deep.RegionHeld3
import Derived.Deep.DeepCutAuto
namespace Go.Proofs.YtdjdociecokilaaDoor
open Go.RowKit
set_option maxHeartbeats 400000 in
theorem refOrder_any (w : World) : Calls Tryd.prog 16 #[] w fun e w' => e = .returned (.agg #[.int .u64 17562291160714782033, .int .u64 13611842547513532036, .int .u64 18446744073709551615, .int .u64 18446744069414584320]) ∧ Ext w w' := by
  go_enter Tryd.func16, Tryd.ntmps16
  go_wp2
  refine bodyPost_ret (v := .agg #[.int .u64 17562291160714782033, .int .u64 13611842547513532036, .int .u64 18446744073709551615, .int .u64 18446744069414584320]) (by simp [results, Tryd.results16, go_sem]) rfl ⟨rfl, ?_⟩
  exact (Ext.refl _).alloc _
theorem cmp_lessq {a n : Int} (h : CmpP a FQ n) : decide (n < 0) = decide (a < FQ) := by
  unfold CmpP at h
  rcases h with ⟨rfl, h⟩ | ⟨rfl, h⟩ | ⟨rfl, h⟩ <;> simp <;> omega
set_option maxHeartbeats 1000000 in
theorem refSValid_any (x0 x1 x2 x3 : Int) (hx : Lim4 x0 x1 x2 x3) (w : World) :
    Calls Tryd.prog 14 #[.agg #[.int .u64 x0, .int .u64 x1, .int .u64 x2, .int .u64 x3]] w fun e w' => e = .returned (.bool (decide (val x0 x1 x2 x3 < FQ))) ∧ Ext w w' := by
  have R0 := Row.new w x0 x1 x2 x3
  have HE0 : Hid (Ext w (w.alloc (.cells #[.int .u64 x0, .int .u64 x1, .int .u64 x2, .int .u64 x3] 24))) := (Ext.refl _).alloc _
  have HM : Hid (∀ wx, Calls Tryd.prog 33 #[.agg #[.int .u64 x0, .int .u64 x1, .int .u64 x2, .int .u64 x3], .agg #[.int .u64 17562291160714782033, .int .u64 13611842547513532036, .int .u64 18446744073709551615, .int .u64 18446744069414584320]] wx fun e w' => ∃ n : Int, e = .returned (.int .i64 n) ∧ Hid (CmpP (val x0 x1 x2 x3) FQ n) ∧ Ext wx w') := fun wx => by
    have h := refCmp_any x0 x1 x2 x3 _ _ _ _ hx lim_FQ wx
    rw [val_FQ] at h
    exact h
  go_enter Tryd.func14, Tryd.ntmps14
  go_wp2_with fail
  generalize w.alloc (.cells #[.int .u64 x0, .int .u64 x1, .int .u64 x2, .int .u64 x3] 24) = W0 at *
  generalize w.heap.size = b at *
  go_region_held3 (fun wx : World => Ext W0 wx ∧ wx.cell? ⟨b, 0, none⟩ = some (.int .u64 x0) ∧ wx.cell? ⟨b, 1, none⟩ = some (.int .u64 x1) ∧ wx.cell? ⟨b, 2, none⟩ = some (.int .u64 x2) ∧ wx.cell? ⟨b, 3, none⟩ = some (.int .u64 x3)) (first | exact keep1 (Ext.drew (Ext.refl _)) R0 | exact keep1 (by assumption) R0) (first | (go_at_call 16; refine (refOrder_any _).mono ?_; rintro e wy ⟨rfl, HX⟩; have hEy : Ext W0 wy := (by refine Ext.trans ?_ HX; simp only [*])) | (go_at_call 33; refine (HM.out _).mono ?_; rintro e wy ⟨n, rfl, HC, HX⟩; have hEy : Ext W0 wy := (by refine Ext.trans ?_ HX; simp only [*])))
  go_wp2
  go_ret
  exact ⟨by rw [← cmp_lessq HC.out]; rfl, HE0.out.trans hEy⟩
theorem qmod_sub {x0 x1 x2 x3 d0 d1 d2 d3 : Int} {c : Bool} (hx : Lim4 x0 x1 x2 x3) (h : ¬ val x0 x1 x2 x3 < FQ) (hd : SubP x0 x1 x2 x3 17562291160714782033 13611842547513532036 18446744073709551615 18446744069414584320 d0 d1 d2 d3 c) : QMod (val x0 x1 x2 x3) d0 d1 d2 d3 := by
  obtain ⟨hl, he⟩ := hd
  rw [val_FQ] at he
  have b1 := val_bd hx
  have b2 := val_bd hl
  refine ⟨hl, ?_⟩
  unfold FQ B256 at *
  cases c <;> simp at he <;> omega
set_option maxHeartbeats 2000000 in
theorem refSMod_any (x0 x1 x2 x3 : Int) (hx : Lim4 x0 x1 x2 x3) (w : World) :
    Calls Tryd.prog 30 #[.agg #[.int .u64 x0, .int .u64 x1, .int .u64 x2, .int .u64 x3]] w fun e w' => ∃ r0 r1 r2 r3 : Int, e = .returned (.agg #[.int .u64 r0, .int .u64 r1, .int .u64 r2, .int .u64 r3]) ∧ Hid (QMod (val x0 x1 x2 x3) r0 r1 r2 r3) ∧ Ext w w' := by
  have RA := (Row.new w x0 x1 x2 x3).ext ((Ext.refl _).alloc (.cells #[.int .u64 0, .int .u64 0, .int .u64 0, .int .u64 0] 24))
  have RZ := RowF.new (w.alloc (.cells #[.int .u64 x0, .int .u64 x1, .int .u64 x2, .int .u64 x3] 24)) 0 0 0 0
  rw [show (w.alloc (.cells #[.int .u64 x0, .int .u64 x1, .int .u64 x2, .int .u64 x3] 24)).heap.size = w.heap.size + 1 from by simp] at RZ
  have HE0 : Hid (Ext w ((w.alloc (.cells #[.int .u64 x0, .int .u64 x1, .int .u64 x2, .int .u64 x3] 24)).alloc (.cells #[.int .u64 0, .int .u64 0, .int .u64 0, .int .u64 0] 24))) := ((Ext.refl _).alloc _).alloc _
  have HB : SizeLe w (w.heap.size + 1) := by unfold SizeLe; omega
  have HM : Hid (∀ wx, Calls Tryd.prog 25 #[.agg #[.int .u64 x0, .int .u64 x1, .int .u64 x2, .int .u64 x3], .agg #[.int .u64 17562291160714782033, .int .u64 13611842547513532036, .int .u64 18446744073709551615, .int .u64 18446744069414584320]] wx fun e w' => ∃ (s0 s1 s2 s3 : Int) (c : Bool), e = .returned (.tuple #[.agg #[.int .u64 s0, .int .u64 s1, .int .u64 s2, .int .u64 s3], .bool c]) ∧ Hid (SubP x0 x1 x2 x3 17562291160714782033 13611842547513532036 18446744073709551615 18446744069414584320 s0 s1 s2 s3 c) ∧ Ext wx w') := fun wx => refSub_raw x0 x1 x2 x3 _ _ _ _ hx lim_FQ wx
  go_enter Tryd.func30, Tryd.ntmps30
  go_wp2_with fail
  refine (refSValid_any _ _ _ _ hx _).mono ?_
  rintro e w1 ⟨rfl, HX⟩
  have R0 := RA.ext HX
  have HE1 : Hid (Ext w w1) := HE0.out.trans HX
  obtain ⟨⟨lz, c0, c1, c2, c3⟩, f0, f1, f2, f3⟩ := RZ.ext HX
  have RZ1 : RowF w1 (w.heap.size + 1) 0 0 0 0 := RZ.ext HX
  clear HX HE0 RA RZ
  generalize w.heap.size + 1 = bz at *
  generalize w.heap.size = b at *
  have R0' := R0
  obtain ⟨l0, a0, a1, a2, a3⟩ := R0
  by_cases hv : val x0 x1 x2 x3 < FQ
  · have HG : Hid (QMod (val x0 x1 x2 x3) x0 x1 x2 x3) := qmod_less hx hv
    have hd : decide (val x0 x1 x2 x3 < FQ) = true := by simpa using hv
    rw [hd]
    clear hv hd
    go_wp2
    refine bodyPost_ret (v := .agg #[.int .u64 x0, .int .u64 x1, .int .u64 x2, .int .u64 x3]) (by simp [results, Tryd.results30, go_sem, c0, c1, c2, c3]) rfl ⟨x0, x1, x2, x3, rfl, HG, ?_⟩
    exact Ext.st HB (Ext.st HB (Ext.st HB (Ext.st HB HE1.out)))
  · have HG : Hid (∀ d0 d1 d2 d3 c, SubP x0 x1 x2 x3 17562291160714782033 13611842547513532036 18446744073709551615 18446744069414584320 d0 d1 d2 d3 c → QMod (val x0 x1 x2 x3) d0 d1 d2 d3) := fun d0 d1 d2 d3 c h => qmod_sub hx hv h
    have hd : decide (val x0 x1 x2 x3 < FQ) = false := by simpa using hv
    rw [hd]
    clear hv hd
    go_wp2_with fail
    obtain ⟨W0, hW0⟩ : ∃ W0, W0 = w1 := ⟨_, rfl⟩
    subst hW0
    go_cut [3] (fun s3 wx => ∃ (b3 : Nat) (d0 d1 d2 d3 : Int), s3 = .pointer (some ⟨b3, 0, none⟩) ∧ Row wx b3 d0 d1 d2 d3 ∧ Hid (QMod (val x0 x1 x2 x3) d0 d1 d2 d3) ∧ Ext W0 wx)
    case first =>
      have R0 := R0'
      have hl0 : W0.heap.size ≤ W0.heap.size := Nat.le_refl _
      have hl1 : W0.heap.size ≤ W0.heap.size + 1 := Nat.le_succ _
      go_region_held3 (fun wx : World => Ext W0 wx ∧ wx.cell? ⟨b, 0, none⟩ = some (.int .u64 x0) ∧ wx.cell? ⟨b, 1, none⟩ = some (.int .u64 x1) ∧ wx.cell? ⟨b, 2, none⟩ = some (.int .u64 x2) ∧ wx.cell? ⟨b, 3, none⟩ = some (.int .u64 x3)) ((refine keep1 ?_ R0; simp (maxDischargeDepth := 30) only [extAlloc, extDrew, Ext.st, Ext.refl, *])) (first | (go_at_call 16; refine (refOrder_any _).mono ?_; rintro e wy ⟨rfl, HX⟩; have hEy : Ext W0 wy := (by refine Ext.trans ?_ HX; simp only [*]); have hz0 : W0.heap.size ≤ wy.heap.size := hEy.size; have hz1 : W0.heap.size ≤ wy.heap.size + 1 := Nat.le_succ_of_le hz0; have htr : ∀ b, b < _ → b < wy.heap.size := (fun b h => Nat.lt_of_lt_of_le h HX.size); have hsz := HX.size; (try simp at hsz); (try have hs1 := Nat.lt_of_succ_le hsz); (try have hs2 := Nat.lt_of_succ_lt (Nat.lt_of_succ_le hsz)); obtain ⟨hcc, hff⟩ := HX.cells; (try simp at hcc); (try simp at hff)) | (go_at_call 25; refine (HM.out _).mono ?_; rintro e wy ⟨d0, d1, d2, d3, c, rfl, HD, HX⟩; have hEy : Ext W0 wy := (by refine Ext.trans ?_ HX; simp only [*]); have hz0 : W0.heap.size ≤ wy.heap.size := hEy.size; have hz1 : W0.heap.size ≤ wy.heap.size + 1 := Nat.le_succ_of_le hz0; have htr : ∀ b, b < _ → b < wy.heap.size := (fun b h => Nat.lt_of_lt_of_le h HX.size); have hsz := HX.size; (try simp at hsz); (try have hs1 := Nat.lt_of_succ_le hsz); (try have hs2 := Nat.lt_of_succ_lt (Nat.lt_of_succ_le hsz)); obtain ⟨hcc, hff⟩ := HX.cells; (try simp at hcc); (try simp at hff)))
      all_goals
        go_wp2
        go_meet
        case rel => exact ⟨_, d0, d1, d2, d3, rfl, ⟨by simp [*], (by first | (go_simp; done) | (go_simp; exact World.cell?_setCell_same' _ _ _ (by go_simp))), (by first | (go_simp; done) | (go_simp; exact World.cell?_setCell_same' _ _ _ (by go_simp))), (by first | (go_simp; done) | (go_simp; exact World.cell?_setCell_same' _ _ _ (by go_simp))), (by first | (go_simp; done) | (go_simp; exact World.cell?_setCell_same' _ _ _ (by go_simp)))⟩, HG.out _ _ _ _ _ HD.out, by simp only [*]⟩
    case rest =>
      obtain ⟨b3, d0, d1, d2, d3, rfl, R3, HF, HXc⟩ := hcut
      obtain ⟨l3, e0, e1, e2, e3⟩ := R3
      clear c0 c1 c2 c3 f0 f1 f2 f3 lz l0 a0 a1 a2 a3
      obtain ⟨⟨lz, c0, c1, c2, c3⟩, f0, f1, f2, f3⟩ := RZ1.ext HXc
      have HE2 : Hid (Ext w wc) := HE1.out.trans HXc
      clear HXc
      go_wp2
      refine bodyPost_ret (v := .agg #[.int .u64 d0, .int .u64 d1, .int .u64 d2, .int .u64 d3]) (by simp [results, Tryd.results30, go_sem, c0, c1, c2, c3]) rfl ⟨d0, d1, d2, d3, rfl, HF, ?_⟩
      exact Ext.st HB (Ext.st HB (Ext.st HB (Ext.st HB HE2.out)))
theorem qadd_carry {a b x0 x1 x2 x3 y0 y1 y2 y3 s0 s1 s2 s3 d0 d1 d2 d3 : Int} {c : Bool} (hx : QMod a x0 x1 x2 x3) (hy : QMod b y0 y1 y2 y3) (hs : AddP x0 x1 x2 x3 y0 y1 y2 y3 s0 s1 s2 s3 true)
    (hd : SubP s0 s1 s2 s3 17562291160714782033 13611842547513532036 18446744073709551615 18446744069414584320 d0 d1 d2 d3 c) : QMod (a + b) d0 d1 d2 d3 := by
  obtain ⟨_, ex⟩ := hx
  obtain ⟨_, ey⟩ := hy
  obtain ⟨ls, es⟩ := hs
  obtain ⟨ld, ed⟩ := hd
  rw [val_FQ] at ed
  have b2 := val_bd ld
  have b3 := val_bd ls
  have hp : (0 : Int) < FQ := by decide
  have r1 := Int.emod_nonneg a (show FQ ≠ 0 by decide)
  have r2 := Int.emod_lt_of_pos a hp
  have r3 := Int.emod_nonneg b (show FQ ≠ 0 by decide)
  have r4 := Int.emod_lt_of_pos b hp
  refine ⟨ld, ?_⟩
  rw [Int.add_emod, ← ex, ← ey]
  rw [← ex] at r1 r2
  rw [← ey] at r3 r4
  have : (val x0 x1 x2 x3 + val y0 y1 y2 y3) % FQ = val x0 x1 x2 x3 + val y0 y1 y2 y3 - FQ := by
    unfold FQ B256 at *
    simp at es
    omega
  rw [this]
  unfold FQ B256 at *
  simp at es
  cases c <;> simp at ed <;> omega
theorem qadd_plain {a b x0 x1 x2 x3 y0 y1 y2 y3 s0 s1 s2 s3 r0 r1 r2 r3 : Int} (hx : QMod a x0 x1 x2 x3) (hy : QMod b y0 y1 y2 y3) (hs : AddP x0 x1 x2 x3 y0 y1 y2 y3 s0 s1 s2 s3 false) (hr : QMod (val s0 s1 s2 s3) r0 r1 r2 r3) : QMod (a + b) r0 r1 r2 r3 := by
  have es : val s0 s1 s2 s3 = val x0 x1 x2 x3 + val y0 y1 y2 y3 := by have := hs.2; simp at this; exact this
  refine ⟨hr.1, ?_⟩
  rw [hr.2, es, hx.2, hy.2, ← Int.add_emod]
/-- What stands behind the first statement of Add. -/
def SAddPre (a b s0 s1 s2 s3 : Int) (c : Bool) : Prop := ∃ x0 x1 x2 x3 y0 y1 y2 y3 : Int, QMod a x0 x1 x2 x3 ∧ QMod b y0 y1 y2 y3 ∧ AddP x0 x1 x2 x3 y0 y1 y2 y3 s0 s1 s2 s3 c
def SSubPre (a b s0 s1 s2 s3 : Int) (c : Bool) : Prop := ∃ x0 x1 x2 x3 y0 y1 y2 y3 : Int, QMod a x0 x1 x2 x3 ∧ QMod b y0 y1 y2 y3 ∧ SubP x0 x1 x2 x3 y0 y1 y2 y3 s0 s1 s2 s3 c
theorem qmod_rw {a b r0 r1 r2 r3 : Int} (h : a = b) (k : QMod a r0 r1 r2 r3) : QMod b r0 r1 r2 r3 := h ▸ k
set_option maxHeartbeats 4000000 in
theorem refSAdd_any (x0 x1 x2 x3 y0 y1 y2 y3 : Int) (hx : Lim4 x0 x1 x2 x3) (hy : Lim4 y0 y1 y2 y3) (w : World) :
    Calls Tryd.prog 10 #[.agg #[.int .u64 x0, .int .u64 x1, .int .u64 x2, .int .u64 x3], .agg #[.int .u64 y0, .int .u64 y1, .int .u64 y2, .int .u64 y3]] w fun e w' => ∃ r0 r1 r2 r3 : Int, e = .returned (.agg #[.int .u64 r0, .int .u64 r1, .int .u64 r2, .int .u64 r3]) ∧ Hid (QMod (val x0 x1 x2 x3 + val y0 y1 y2 y3) r0 r1 r2 r3) ∧ Ext w w' := by
  have RT := Row.two w x0 x1 x2 x3 y0 y1 y2 y3
  have R1 := RT.1.ext ((Ext.refl _).alloc (.cells #[.int .u64 0, .int .u64 0, .int .u64 0, .int .u64 0] 24))
  have R2 := RT.2.ext ((Ext.refl _).alloc (.cells #[.int .u64 0, .int .u64 0, .int .u64 0, .int .u64 0] 24))
  have RZ := RowF.new ((w.alloc (.cells #[.int .u64 x0, .int .u64 x1, .int .u64 x2, .int .u64 x3] 24)).alloc (.cells #[.int .u64 y0, .int .u64 y1, .int .u64 y2, .int .u64 y3] 24)) 0 0 0 0
  rw [show ((w.alloc (.cells #[.int .u64 x0, .int .u64 x1, .int .u64 x2, .int .u64 x3] 24)).alloc (.cells #[.int .u64 y0, .int .u64 y1, .int .u64 y2, .int .u64 y3] 24)).heap.size = w.heap.size + 1 + 1 from by simp] at RZ
  have HE0 : Hid (Ext w (((w.alloc (.cells #[.int .u64 x0, .int .u64 x1, .int .u64 x2, .int .u64 x3] 24)).alloc (.cells #[.int .u64 y0, .int .u64 y1, .int .u64 y2, .int .u64 y3] 24)).alloc (.cells #[.int .u64 0, .int .u64 0, .int .u64 0, .int .u64 0] 24))) := (((Ext.refl _).alloc _).alloc _).alloc _
  have HB : SizeLe w (w.heap.size + 1 + 1) := by unfold SizeLe; omega
  clear RT
  go_enter Tryd.func10, Tryd.ntmps10
  go_wp2_with fail
  generalize ((w.alloc (.cells #[.int .u64 x0, .int .u64 x1, .int .u64 x2, .int .u64 x3] 24)).alloc (.cells #[.int .u64 y0, .int .u64 y1, .int .u64 y2, .int .u64 y3] 24)).alloc (.cells #[.int .u64 0, .int .u64 0, .int .u64 0, .int .u64 0] 24) = W0 at *
  generalize w.heap.size + 1 + 1 = bz at *
  generalize w.heap.size + 1 = c at *
  generalize w.heap.size = b at *
  go_cut [5, 6] (fun s5 s6 wx => ∃ (b5 : Nat) (s0 s1 s2 s3 : Int) (k : Bool), s5 = .pointer (some ⟨b5, 0, none⟩) ∧ s6 = .bool k ∧ Row wx b5 s0 s1 s2 s3 ∧ Hid (SAddPre (val x0 x1 x2 x3) (val y0 y1 y2 y3) s0 s1 s2 s3 k) ∧ Ext W0 wx)
  case first =>
    have hl0 : W0.heap.size ≤ W0.heap.size := Nat.le_refl _
    have hl1 : W0.heap.size ≤ W0.heap.size + 1 := Nat.le_succ _
    go_region_held3 (fun wx : World => Ext W0 wx ∧ wx.cell? ⟨b, 0, none⟩ = some (.int .u64 x0) ∧ wx.cell? ⟨b, 1, none⟩ = some (.int .u64 x1) ∧ wx.cell? ⟨b, 2, none⟩ = some (.int .u64 x2) ∧ wx.cell? ⟨b, 3, none⟩ = some (.int .u64 x3) ∧ wx.cell? ⟨c, 0, none⟩ = some (.int .u64 y0) ∧ wx.cell? ⟨c, 1, none⟩ = some (.int .u64 y1) ∧ wx.cell? ⟨c, 2, none⟩ = some (.int .u64 y2) ∧ wx.cell? ⟨c, 3, none⟩ = some (.int .u64 y3)) ((refine keep2 ?_ R1 R2; simp (maxDischargeDepth := 30) only [extAlloc, extDrew, Ext.st, Ext.refl, *])) (first | (go_at_call 30; refine (refSMod_any _ _ _ _ (by assumption) _).mono ?_; rintro e wy ⟨m0, m1, m2, m3, rfl, HMod, HX⟩; have hL : Lim4 m0 m1 m2 m3 := HMod.out.1; have hEy : Ext W0 wy := (by refine Ext.trans ?_ HX; simp only [*]); have hz0 : W0.heap.size ≤ wy.heap.size := hEy.size; have hz1 : W0.heap.size ≤ wy.heap.size + 1 := Nat.le_succ_of_le hz0; have htr : ∀ b, b < _ → b < wy.heap.size := (fun b h => Nat.lt_of_lt_of_le h HX.size); have hsz := HX.size; (try simp at hsz); (try have hs1 := Nat.lt_of_succ_le hsz); (try have hs2 := Nat.lt_of_succ_lt (Nat.lt_of_succ_le hsz)); obtain ⟨hcc, hff⟩ := HX.cells; (try simp at hcc); (try simp at hff)) | (go_at_call 29; refine (refAdd_raw _ _ _ _ _ _ _ _ (by assumption) (by assumption) _).mono ?_; rintro e wy ⟨s0, s1, s2, s3, k, rfl, HA, HX⟩; have hEy : Ext W0 wy := (by refine Ext.trans ?_ HX; simp only [*]); have hz0 : W0.heap.size ≤ wy.heap.size := hEy.size; have hz1 : W0.heap.size ≤ wy.heap.size + 1 := Nat.le_succ_of_le hz0; have htr : ∀ b, b < _ → b < wy.heap.size := (fun b h => Nat.lt_of_lt_of_le h HX.size); have hsz := HX.size; (try simp at hsz); (try have hs1 := Nat.lt_of_succ_le hsz); (try have hs2 := Nat.lt_of_succ_lt (Nat.lt_of_succ_le hsz)); obtain ⟨hcc, hff⟩ := HX.cells; (try simp at hcc); (try simp at hff)))
    all_goals
      go_wp2
      go_meet
      case rel => exact ⟨_, s0, s1, s2, s3, k, rfl, rfl, ⟨by simp [*], (by first | (go_simp; done) | (go_simp; exact World.cell?_setCell_same' _ _ _ (by go_simp))), (by first | (go_simp; done) | (go_simp; exact World.cell?_setCell_same' _ _ _ (by go_simp))), (by first | (go_simp; done) | (go_simp; exact World.cell?_setCell_same' _ _ _ (by go_simp))), (by first | (go_simp; done) | (go_simp; exact World.cell?_setCell_same' _ _ _ (by go_simp)))⟩, ⟨_, _, _, _, _, _, _, _, by assumption, by assumption, HA.out⟩, by simp only [*]⟩
  case rest =>
    obtain ⟨b5, s0, s1, s2, s3, k, rfl, rfl, R5, HP, HXc⟩ := hcut
    have RZ1 := RZ.ext HXc
    have HE1 : Hid (Ext w wc) := HE0.out.trans HXc
    have hs : Lim4 s0 s1 s2 s3 := by obtain ⟨_, _, _, _, _, _, _, _, _, _, h⟩ := HP.out; exact h.1
    clear HXc HE0 RZ R1 R2
    clear W0
    obtain ⟨W0, hW0⟩ : ∃ W0, W0 = wc := ⟨_, rfl⟩
    subst hW0
    have R0 := R5
    obtain ⟨l5, e0, e1, e2, e3⟩ := R5
    cases k
    case true =>
      have HM : Hid (∀ wx, Calls Tryd.prog 25 #[.agg #[.int .u64 s0, .int .u64 s1, .int .u64 s2, .int .u64 s3], .agg #[.int .u64 17562291160714782033, .int .u64 13611842547513532036, .int .u64 18446744073709551615, .int .u64 18446744069414584320]] wx fun e w' => ∃ (d0 d1 d2 d3 : Int) (c : Bool), e = .returned (.tuple #[.agg #[.int .u64 d0, .int .u64 d1, .int .u64 d2, .int .u64 d3], .bool c]) ∧ Hid (SubP s0 s1 s2 s3 17562291160714782033 13611842547513532036 18446744073709551615 18446744069414584320 d0 d1 d2 d3 c) ∧ Ext wx w') := fun wx => refSub_raw s0 s1 s2 s3 _ _ _ _ hs lim_FQ wx
      have HG : Hid (∀ d0 d1 d2 d3 c, SubP s0 s1 s2 s3 17562291160714782033 13611842547513532036 18446744073709551615 18446744069414584320 d0 d1 d2 d3 c → QMod (val x0 x1 x2 x3 + val y0 y1 y2 y3) d0 d1 d2 d3) := fun d0 d1 d2 d3 c h => by
        obtain ⟨_, _, _, _, _, _, _, _, h1, h2, h3⟩ := HP.out
        exact qadd_carry h1 h2 h3 h
      clear HP
      go_wp2_with fail
      go_cut [7] (fun s7 wx => ∃ (b7 : Nat) (d0 d1 d2 d3 : Int), s7 = .pointer (some ⟨b7, 0, none⟩) ∧ Row wx b7 d0 d1 d2 d3 ∧ Hid (QMod (val x0 x1 x2 x3 + val y0 y1 y2 y3) d0 d1 d2 d3) ∧ Ext W0 wx)
      case first =>
        have hl0 : W0.heap.size ≤ W0.heap.size := Nat.le_refl _
        have hl1 : W0.heap.size ≤ W0.heap.size + 1 := Nat.le_succ _
        go_region_held3 (fun wx : World => Ext W0 wx ∧ wx.cell? ⟨b5, 0, none⟩ = some (.int .u64 s0) ∧ wx.cell? ⟨b5, 1, none⟩ = some (.int .u64 s1) ∧ wx.cell? ⟨b5, 2, none⟩ = some (.int .u64 s2) ∧ wx.cell? ⟨b5, 3, none⟩ = some (.int .u64 s3)) ((refine keep1 ?_ R0; simp (maxDischargeDepth := 30) only [extAlloc, extDrew, Ext.st, Ext.refl, *])) (first | (go_at_call 16; refine (refOrder_any _).mono ?_; rintro e wy ⟨rfl, HX⟩; have hEy : Ext W0 wy := (by refine Ext.trans ?_ HX; simp only [*]); have hz0 : W0.heap.size ≤ wy.heap.size := hEy.size; have hz1 : W0.heap.size ≤ wy.heap.size + 1 := Nat.le_succ_of_le hz0; have htr : ∀ b, b < _ → b < wy.heap.size := (fun b h => Nat.lt_of_lt_of_le h HX.size); have hsz := HX.size; (try simp at hsz); (try have hs1 := Nat.lt_of_succ_le hsz); (try have hs2 := Nat.lt_of_succ_lt (Nat.lt_of_succ_le hsz)); obtain ⟨hcc, hff⟩ := HX.cells; (try simp at hcc); (try simp at hff)) | (go_at_call 25; refine (HM.out _).mono ?_; rintro e wy ⟨d0, d1, d2, d3, q, rfl, HD, HX⟩; have hEy : Ext W0 wy := (by refine Ext.trans ?_ HX; simp only [*]); have hz0 : W0.heap.size ≤ wy.heap.size := hEy.size; have hz1 : W0.heap.size ≤ wy.heap.size + 1 := Nat.le_succ_of_le hz0; have htr : ∀ b, b < _ → b < wy.heap.size := (fun b h => Nat.lt_of_lt_of_le h HX.size); have hsz := HX.size; (try simp at hsz); (try have hs1 := Nat.lt_of_succ_le hsz); (try have hs2 := Nat.lt_of_succ_lt (Nat.lt_of_succ_le hsz)); obtain ⟨hcc, hff⟩ := HX.cells; (try simp at hcc); (try simp at hff)))
        all_goals
          go_wp2
          go_meet
          case rel => exact ⟨_, d0, d1, d2, d3, rfl, ⟨by simp [*], (by first | (go_simp; done) | (go_simp; exact World.cell?_setCell_same' _ _ _ (by go_simp))), (by first | (go_simp; done) | (go_simp; exact World.cell?_setCell_same' _ _ _ (by go_simp))), (by first | (go_simp; done) | (go_simp; exact World.cell?_setCell_same' _ _ _ (by go_simp))), (by first | (go_simp; done) | (go_simp; exact World.cell?_setCell_same' _ _ _ (by go_simp)))⟩, HG.out _ _ _ _ _ HD.out, by simp only [*]⟩
      case rest =>
        obtain ⟨b7, d0, d1, d2, d3, rfl, R7, HF, HXc⟩ := hcut
        obtain ⟨l7, a0, a1, a2, a3⟩ := R7
        clear l5 e0 e1 e2 e3
        obtain ⟨⟨lz, c0, c1, c2, c3⟩, f0, f1, f2, f3⟩ := RZ1.ext HXc
        have HE2 : Hid (Ext w wc) := HE1.out.trans HXc
        clear HXc
        go_wp2
        refine bodyPost_ret (v := .agg #[.int .u64 d0, .int .u64 d1, .int .u64 d2, .int .u64 d3]) (by simp [results, Tryd.results10, go_sem, c0, c1, c2, c3]) rfl ⟨d0, d1, d2, d3, rfl, HF, ?_⟩
        exact (Ext.st HB (Ext.st HB (Ext.st HB (Ext.st HB HE2.out))))
    case false =>
      go_wp2_with fail
      refine (refSMod_any _ _ _ _ hs _).mono ?_
      rintro e w2 ⟨r0, r1, r2, r3, rfl, HR, HX⟩
      have HF : Hid (QMod (val x0 x1 x2 x3 + val y0 y1 y2 y3) r0 r1 r2 r3) := by
        obtain ⟨_, _, _, _, _, _, _, _, h1, h2, h3⟩ := HP.out
        exact qadd_plain h1 h2 h3 HR.out
      obtain ⟨⟨lz, c0, c1, c2, c3⟩, f0, f1, f2, f3⟩ := RZ1.ext HX
      have HE2 : Hid (Ext w w2) := HE1.out.trans HX
      clear HX HR HP l5 e0 e1 e2 e3
      go_wp2
      refine bodyPost_ret (v := .agg #[.int .u64 r0, .int .u64 r1, .int .u64 r2, .int .u64 r3]) (by simp [results, Tryd.results10, go_sem, c0, c1, c2, c3]) rfl ⟨r0, r1, r2, r3, rfl, HF, ?_⟩
      exact (Ext.st HB (Ext.st HB (Ext.st HB (Ext.st HB HE2.out))))
theorem qsub_plain {a b x0 x1 x2 x3 y0 y1 y2 y3 s0 s1 s2 s3 : Int} (hx : QMod a x0 x1 x2 x3) (hy : QMod b y0 y1 y2 y3) (hs : SubP x0 x1 x2 x3 y0 y1 y2 y3 s0 s1 s2 s3 false) : QMod (a - b) s0 s1 s2 s3 := by
  obtain ⟨_, ex⟩ := hx
  obtain ⟨_, ey⟩ := hy
  obtain ⟨ls, es⟩ := hs
  have b3 := val_bd ls
  have hp : (0 : Int) < FQ := by decide
  have r2 := Int.emod_lt_of_pos a hp
  have r3 := Int.emod_nonneg b (show FQ ≠ 0 by decide)
  refine ⟨ls, ?_⟩
  simp at es
  rw [Int.sub_emod, ← ex, ← ey, ← es]
  rw [← ex] at r2
  rw [← ey] at r3
  exact (Int.emod_eq_of_lt b3.1 (by omega)).symm
theorem qsub_less {a b x0 x1 x2 x3 y0 y1 y2 y3 s0 s1 s2 s3 r0 r1 r2 r3 : Int} {c : Bool} (hx : QMod a x0 x1 x2 x3) (hy : QMod b y0 y1 y2 y3) (hs : SubP x0 x1 x2 x3 y0 y1 y2 y3 s0 s1 s2 s3 true)
    (hr : AddP s0 s1 s2 s3 17562291160714782033 13611842547513532036 18446744073709551615 18446744069414584320 r0 r1 r2 r3 c) : QMod (a - b) r0 r1 r2 r3 := by
  obtain ⟨_, ex⟩ := hx
  obtain ⟨_, ey⟩ := hy
  obtain ⟨ls, es⟩ := hs
  obtain ⟨lr, er⟩ := hr
  rw [val_FQ] at er
  have b2 := val_bd lr
  have b3 := val_bd ls
  have hp : (0 : Int) < FQ := by decide
  have q1 := Int.emod_nonneg a (show FQ ≠ 0 by decide)
  have q4 := Int.emod_lt_of_pos b hp
  refine ⟨lr, ?_⟩
  rw [Int.sub_emod, ← ex, ← ey]
  rw [← ex] at q1
  rw [← ey] at q4
  unfold FQ B256 at *
  simp at es
  cases c <;> simp at er <;> omega
set_option maxHeartbeats 4000000 in
theorem refSSub_any (x0 x1 x2 x3 y0 y1 y2 y3 : Int) (hx : Lim4 x0 x1 x2 x3) (hy : Lim4 y0 y1 y2 y3) (w : World) :
    Calls Tryd.prog 12 #[.agg #[.int .u64 x0, .int .u64 x1, .int .u64 x2, .int .u64 x3], .agg #[.int .u64 y0, .int .u64 y1, .int .u64 y2, .int .u64 y3]] w fun e w' => ∃ r0 r1 r2 r3 : Int, e = .returned (.agg #[.int .u64 r0, .int .u64 r1, .int .u64 r2, .int .u64 r3]) ∧ Hid (QMod (val x0 x1 x2 x3 - val y0 y1 y2 y3) r0 r1 r2 r3) ∧ Ext w w' := by
  have RT := Row.two w x0 x1 x2 x3 y0 y1 y2 y3
  have R1 := RT.1.ext ((Ext.refl _).alloc (.cells #[.int .u64 0, .int .u64 0, .int .u64 0, .int .u64 0] 24))
  have R2 := RT.2.ext ((Ext.refl _).alloc (.cells #[.int .u64 0, .int .u64 0, .int .u64 0, .int .u64 0] 24))
  have RZ := RowF.new ((w.alloc (.cells #[.int .u64 x0, .int .u64 x1, .int .u64 x2, .int .u64 x3] 24)).alloc (.cells #[.int .u64 y0, .int .u64 y1, .int .u64 y2, .int .u64 y3] 24)) 0 0 0 0
  rw [show ((w.alloc (.cells #[.int .u64 x0, .int .u64 x1, .int .u64 x2, .int .u64 x3] 24)).alloc (.cells #[.int .u64 y0, .int .u64 y1, .int .u64 y2, .int .u64 y3] 24)).heap.size = w.heap.size + 1 + 1 from by simp] at RZ
  have HE0 : Hid (Ext w (((w.alloc (.cells #[.int .u64 x0, .int .u64 x1, .int .u64 x2, .int .u64 x3] 24)).alloc (.cells #[.int .u64 y0, .int .u64 y1, .int .u64 y2, .int .u64 y3] 24)).alloc (.cells #[.int .u64 0, .int .u64 0, .int .u64 0, .int .u64 0] 24))) := (((Ext.refl _).alloc _).alloc _).alloc _
  have HB : SizeLe w (w.heap.size + 1 + 1) := by unfold SizeLe; omega
  clear RT
  go_enter Tryd.func12, Tryd.ntmps12
  go_wp2_with fail
  generalize ((w.alloc (.cells #[.int .u64 x0, .int .u64 x1, .int .u64 x2, .int .u64 x3] 24)).alloc (.cells #[.int .u64 y0, .int .u64 y1, .int .u64 y2, .int .u64 y3] 24)).alloc (.cells #[.int .u64 0, .int .u64 0, .int .u64 0, .int .u64 0] 24) = W0 at *
  generalize w.heap.size + 1 + 1 = bz at *
  generalize w.heap.size + 1 = c at *
  generalize w.heap.size = b at *
  go_cut [5, 6] (fun s5 s6 wx => ∃ (b5 : Nat) (s0 s1 s2 s3 : Int) (k : Bool), s5 = .pointer (some ⟨b5, 0, none⟩) ∧ s6 = .bool k ∧ RowF wx b5 s0 s1 s2 s3 ∧ Hid (SSubPre (val x0 x1 x2 x3) (val y0 y1 y2 y3) s0 s1 s2 s3 k) ∧ Ext W0 wx ∧ W0.heap.size ≤ b5)
  case first =>
    have hl0 : W0.heap.size ≤ W0.heap.size := Nat.le_refl _
    have hl1 : W0.heap.size ≤ W0.heap.size + 1 := Nat.le_succ _
    go_region_held3 (fun wx : World => Ext W0 wx ∧ wx.cell? ⟨b, 0, none⟩ = some (.int .u64 x0) ∧ wx.cell? ⟨b, 1, none⟩ = some (.int .u64 x1) ∧ wx.cell? ⟨b, 2, none⟩ = some (.int .u64 x2) ∧ wx.cell? ⟨b, 3, none⟩ = some (.int .u64 x3) ∧ wx.cell? ⟨c, 0, none⟩ = some (.int .u64 y0) ∧ wx.cell? ⟨c, 1, none⟩ = some (.int .u64 y1) ∧ wx.cell? ⟨c, 2, none⟩ = some (.int .u64 y2) ∧ wx.cell? ⟨c, 3, none⟩ = some (.int .u64 y3)) ((refine keep2 ?_ R1 R2; simp (maxDischargeDepth := 30) only [extAlloc, extDrew, Ext.st, Ext.refl, *])) (first | (go_at_call 30; refine (refSMod_any _ _ _ _ (by assumption) _).mono ?_; rintro e wy ⟨m0, m1, m2, m3, rfl, HMod, HX⟩; have hL : Lim4 m0 m1 m2 m3 := HMod.out.1; have hEy : Ext W0 wy := (by refine Ext.trans ?_ HX; simp only [*]); have hz0 : W0.heap.size ≤ wy.heap.size := hEy.size; have hz1 : W0.heap.size ≤ wy.heap.size + 1 := Nat.le_succ_of_le hz0; have htr : ∀ b, b < _ → b < wy.heap.size := (fun b h => Nat.lt_of_lt_of_le h HX.size); have hsz := HX.size; (try simp at hsz); (try have hs1 := Nat.lt_of_succ_le hsz); (try have hs2 := Nat.lt_of_succ_lt (Nat.lt_of_succ_le hsz)); obtain ⟨hcc, hff⟩ := HX.cells; (try simp at hcc); (try simp at hff)) | (go_at_call 25; refine (refSub_raw _ _ _ _ _ _ _ _ (by assumption) (by assumption) _).mono ?_; rintro e wy ⟨s0, s1, s2, s3, k, rfl, HA, HX⟩; have hEy : Ext W0 wy := (by refine Ext.trans ?_ HX; simp only [*]); have hz0 : W0.heap.size ≤ wy.heap.size := hEy.size; have hz1 : W0.heap.size ≤ wy.heap.size + 1 := Nat.le_succ_of_le hz0; have htr : ∀ b, b < _ → b < wy.heap.size := (fun b h => Nat.lt_of_lt_of_le h HX.size); have hsz := HX.size; (try simp at hsz); (try have hs1 := Nat.lt_of_succ_le hsz); (try have hs2 := Nat.lt_of_succ_lt (Nat.lt_of_succ_le hsz)); obtain ⟨hcc, hff⟩ := HX.cells; (try simp at hcc); (try simp at hff)))
    all_goals
      go_wp2
      go_meet
      case rel => exact ⟨_, s0, s1, s2, s3, k, rfl, rfl, ⟨⟨by simp [*], (by first | (go_simp; done) | (go_simp; exact World.cell?_setCell_same' _ _ _ (by go_simp))), (by first | (go_simp; done) | (go_simp; exact World.cell?_setCell_same' _ _ _ (by go_simp))), (by first | (go_simp; done) | (go_simp; exact World.cell?_setCell_same' _ _ _ (by go_simp))), (by first | (go_simp; done) | (go_simp; exact World.cell?_setCell_same' _ _ _ (by go_simp)))⟩, (by go_simp), (by go_simp), (by go_simp), (by go_simp)⟩, ⟨_, _, _, _, _, _, _, _, by assumption, by assumption, HA.out⟩, by simp only [*], by simp only [*]⟩
  case rest =>
    obtain ⟨b5, s0, s1, s2, s3, k, rfl, rfl, R5, HP, HXc, hb5⟩ := hcut
    have RZ1 := RZ.ext HXc
    have HE1 : Hid (Ext w wc) := HE0.out.trans HXc
    have hs : Lim4 s0 s1 s2 s3 := by obtain ⟨_, _, _, _, _, _, _, _, _, _, h⟩ := HP.out; exact h.1
    have hbz : bz < b5 := Nat.lt_of_lt_of_le RZ.1.1 hb5
    have HB5 : SizeLe w b5 := by unfold SizeLe at *; omega
    clear HXc HE0 RZ R1 R2 hb5
    clear W0
    obtain ⟨W0, hW0⟩ : ∃ W0, W0 = wc := ⟨_, rfl⟩
    subst hW0
    have R5k := R5
    obtain ⟨⟨l5, e0, e1, e2, e3⟩, g0, g1, g2, g3⟩ := R5
    cases k
    case true =>
      have HM : Hid (∀ wx, Calls Tryd.prog 29 #[.agg #[.int .u64 s0, .int .u64 s1, .int .u64 s2, .int .u64 s3], .agg #[.int .u64 17562291160714782033, .int .u64 13611842547513532036, .int .u64 18446744073709551615, .int .u64 18446744069414584320]] wx fun e w' => ∃ (d0 d1 d2 d3 : Int) (c : Bool), e = .returned (.tuple #[.agg #[.int .u64 d0, .int .u64 d1, .int .u64 d2, .int .u64 d3], .bool c]) ∧ Hid (AddP s0 s1 s2 s3 17562291160714782033 13611842547513532036 18446744073709551615 18446744069414584320 d0 d1 d2 d3 c) ∧ Ext wx w') := fun wx => refAdd_raw s0 s1 s2 s3 _ _ _ _ hs lim_FQ wx
      have HG : Hid (∀ d0 d1 d2 d3 c, AddP s0 s1 s2 s3 17562291160714782033 13611842547513532036 18446744073709551615 18446744069414584320 d0 d1 d2 d3 c → QMod (val x0 x1 x2 x3 - val y0 y1 y2 y3) d0 d1 d2 d3) := fun d0 d1 d2 d3 c h => by
        obtain ⟨_, _, _, _, _, _, _, _, h1, h2, h3⟩ := HP.out
        exact qsub_less h1 h2 h3 h
      clear HP
      go_wp2_with fail
      go_cut [] (fun wx => ∃ (d0 d1 d2 d3 : Int) (wy : World), Hid (QMod (val x0 x1 x2 x3 - val y0 y1 y2 y3) d0 d1 d2 d3) ∧ Hid (Ext W0 wy) ∧ wx = (((wy.setCell ⟨b5, 0, none⟩ (.int .u64 d0)).setCell ⟨b5, 1, none⟩ (.int .u64 d1)).setCell ⟨b5, 2, none⟩ (.int .u64 d2)).setCell ⟨b5, 3, none⟩ (.int .u64 d3))
      case first =>
        go_region_with (first | (go_at_call 16; refine (refOrder_any _).mono ?_; rintro e wy ⟨rfl, HX⟩; have R5y : RowF wy b5 s0 s1 s2 s3 := (by first | exact RowF.ext R5k (Ext.trans (Ext.drew (Ext.refl _)) HX) | exact RowF.ext (by assumption) HX); have hEy : Ext W0 wy := (by first | exact Ext.trans (Ext.drew (Ext.refl _)) HX | exact Ext.trans (by assumption) HX); have R5z := R5y; obtain ⟨⟨y5, u0, u1, u2, u3⟩, z0, z1, z2, z3⟩ := R5z) | (go_at_call 29; refine (HM.out _).mono ?_; rintro e wy ⟨d0, d1, d2, d3, q, rfl, HD, HX⟩; have R5y : RowF wy b5 s0 s1 s2 s3 := (by first | exact RowF.ext R5k (Ext.trans (Ext.drew (Ext.refl _)) HX) | exact RowF.ext (by assumption) HX); have hEy : Ext W0 wy := (by first | exact Ext.trans (Ext.drew (Ext.refl _)) HX | exact Ext.trans (by assumption) HX); have R5z := R5y; obtain ⟨⟨y5, u0, u1, u2, u3⟩, z0, z1, z2, z3⟩ := R5z))
        all_goals
          go_wp2
          go_meet
          case rel => exact ⟨d0, d1, d2, d3, wy, HG.out _ _ _ _ _ HD.out, hEy, rfl⟩
      case rest =>
        obtain ⟨d0, d1, d2, d3, wy, HF, HEy, rfl⟩ := hcut
        clear l5 e0 e1 e2 e3 g0 g1 g2 g3
        obtain ⟨⟨l5, e0, e1, e2, e3⟩, g0, g1, g2, g3⟩ := R5k.ext HEy.out
        obtain ⟨⟨lz, c0, c1, c2, c3⟩, f0, f1, f2, f3⟩ := RZ1.ext HEy.out
        have HE2 : Hid (Ext w wy) := HE1.out.trans HEy.out
        clear HEy
        go_wp2
        refine bodyPost_ret (v := .agg #[.int .u64 d0, .int .u64 d1, .int .u64 d2, .int .u64 d3]) (by simp [results, Tryd.results12, go_sem, c0, c1, c2, c3]) rfl ⟨d0, d1, d2, d3, rfl, HF, ?_⟩
        exact (Ext.st HB (Ext.st HB (Ext.st HB (Ext.st HB (Ext.st HB5 (Ext.st HB5 (Ext.st HB5 (Ext.st HB5 HE2.out))))))))
    case false =>
      have HF : Hid (QMod (val x0 x1 x2 x3 - val y0 y1 y2 y3) s0 s1 s2 s3) := by
        obtain ⟨_, _, _, _, _, _, _, _, h1, h2, h3⟩ := HP.out
        exact qsub_plain h1 h2 h3
      obtain ⟨⟨lz, c0, c1, c2, c3⟩, f0, f1, f2, f3⟩ := RZ1
      clear HP
      go_wp2
      refine bodyPost_ret (v := .agg #[.int .u64 s0, .int .u64 s1, .int .u64 s2, .int .u64 s3]) (by simp [results, Tryd.results12, go_sem, c0, c1, c2, c3]) rfl ⟨s0, s1, s2, s3, rfl, HF, ?_⟩
      exact (Ext.st HB (Ext.st HB (Ext.st HB (Ext.st HB HE1.out))))
end Go.Proofs.YtdjdociecokilaaDoor
