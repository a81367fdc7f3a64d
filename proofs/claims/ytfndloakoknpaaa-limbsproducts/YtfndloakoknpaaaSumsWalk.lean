/-
  The walk of the statement LimbsSums: true, whatever the two numbers; nothing old is turned.
-/
import Derived.Test.YtfndloakoknpaaaBackWalk
import Derived.Test.YtfndloakoknpaaaRefSub
import Derived.Test.YtfndloakoknpaaaRefCmp
namespace Go.Proofs.Ytfndloakoknpaaa
open Go.RowKit
theorem addP_one {a0 a1 a2 a3 b0 b1 b2 b3 s0 s1 s2 s3 t0 t1 t2 t3 : Int} {c d : Bool} (h : AddP a0 a1 a2 a3 b0 b1 b2 b3 s0 s1 s2 s3 c) (k : AddP a0 a1 a2 a3 b0 b1 b2 b3 t0 t1 t2 t3 d) :
    (t0 = s0 ∧ t1 = s1 ∧ t2 = s2 ∧ t3 = s3) ∧ d = c := by
  have vs := val_bd h.1
  have vt := val_bd k.1
  have e1 := h.2
  have e2 := k.2
  have hv : val t0 t1 t2 t3 = val s0 s1 s2 s3 ∧ d = c := by
    unfold B256 at *
    cases c <;> cases d <;> simp at e1 e2 ⊢ <;> omega
  exact ⟨val_inj k.1 h.1 hv.1, hv.2⟩
theorem subP_one {a0 a1 a2 a3 b0 b1 b2 b3 s0 s1 s2 s3 t0 t1 t2 t3 : Int} {c d : Bool} (h : SubP a0 a1 a2 a3 b0 b1 b2 b3 s0 s1 s2 s3 c) (k : SubP a0 a1 a2 a3 b0 b1 b2 b3 t0 t1 t2 t3 d) :
    (t0 = s0 ∧ t1 = s1 ∧ t2 = s2 ∧ t3 = s3) ∧ d = c := by
  have vs := val_bd h.1
  have vt := val_bd k.1
  have e1 := h.2
  have e2 := k.2
  have hv : val t0 t1 t2 t3 = val s0 s1 s2 s3 ∧ d = c := by
    unfold B256 at *
    cases c <;> cases d <;> simp at e1 e2 ⊢ <;> omega
  exact ⟨val_inj k.1 h.1 hv.1, hv.2⟩
/-- -1, 0, 1. -/
def cmpV (a b : Int) : Int := if a < b then -1 else if a = b then 0 else 1
theorem cmpV_of {a b n : Int} (h : CmpP a b n) : n = cmpV a b := by
  unfold CmpP at h
  unfold cmpV
  split
  · omega
  · split <;> omega
theorem keepS {wo w wx : World} {ba bb b5 b7 b9 bv : Nat} {a0 a1 a2 a3 b0 b1 b2 b3 s0 s1 s2 s3 u0 u1 u2 u3 : Int} (hb : Ext w wx) (h : Ext wo w ∧ w.cell? ⟨ba, 0, none⟩ = some (.int .u64 a0) ∧ w.cell? ⟨ba, 1, none⟩ = some (.int .u64 a1) ∧ w.cell? ⟨ba, 2, none⟩ = some (.int .u64 a2) ∧ w.cell? ⟨ba, 3, none⟩ = some (.int .u64 a3) ∧ w.cell? ⟨bb, 0, none⟩ = some (.int .u64 b0) ∧ w.cell? ⟨bb, 1, none⟩ = some (.int .u64 b1) ∧ w.cell? ⟨bb, 2, none⟩ = some (.int .u64 b2) ∧ w.cell? ⟨bb, 3, none⟩ = some (.int .u64 b3) ∧ w.cell? ⟨b5, 0, none⟩ = some (.int .u64 s0) ∧ w.cell? ⟨b5, 1, none⟩ = some (.int .u64 s1) ∧ w.cell? ⟨b5, 2, none⟩ = some (.int .u64 s2) ∧ w.cell? ⟨b5, 3, none⟩ = some (.int .u64 s3) ∧ w.cell? ⟨b7, 0, none⟩ = some (.int .u64 s0) ∧ w.cell? ⟨b7, 1, none⟩ = some (.int .u64 s1) ∧ w.cell? ⟨b7, 2, none⟩ = some (.int .u64 s2) ∧ w.cell? ⟨b7, 3, none⟩ = some (.int .u64 s3) ∧ w.cell? ⟨b9, 0, none⟩ = some (.int .u64 u0) ∧ w.cell? ⟨b9, 1, none⟩ = some (.int .u64 u1) ∧ w.cell? ⟨b9, 2, none⟩ = some (.int .u64 u2) ∧ w.cell? ⟨b9, 3, none⟩ = some (.int .u64 u3) ∧ w.cell? ⟨bv, 0, none⟩ = some (.int .u64 u0) ∧ w.cell? ⟨bv, 1, none⟩ = some (.int .u64 u1) ∧ w.cell? ⟨bv, 2, none⟩ = some (.int .u64 u2) ∧ w.cell? ⟨bv, 3, none⟩ = some (.int .u64 u3)) : Ext wo wx ∧ wx.cell? ⟨ba, 0, none⟩ = some (.int .u64 a0) ∧ wx.cell? ⟨ba, 1, none⟩ = some (.int .u64 a1) ∧ wx.cell? ⟨ba, 2, none⟩ = some (.int .u64 a2) ∧ wx.cell? ⟨ba, 3, none⟩ = some (.int .u64 a3) ∧ wx.cell? ⟨bb, 0, none⟩ = some (.int .u64 b0) ∧ wx.cell? ⟨bb, 1, none⟩ = some (.int .u64 b1) ∧ wx.cell? ⟨bb, 2, none⟩ = some (.int .u64 b2) ∧ wx.cell? ⟨bb, 3, none⟩ = some (.int .u64 b3) ∧ wx.cell? ⟨b5, 0, none⟩ = some (.int .u64 s0) ∧ wx.cell? ⟨b5, 1, none⟩ = some (.int .u64 s1) ∧ wx.cell? ⟨b5, 2, none⟩ = some (.int .u64 s2) ∧ wx.cell? ⟨b5, 3, none⟩ = some (.int .u64 s3) ∧ wx.cell? ⟨b7, 0, none⟩ = some (.int .u64 s0) ∧ wx.cell? ⟨b7, 1, none⟩ = some (.int .u64 s1) ∧ wx.cell? ⟨b7, 2, none⟩ = some (.int .u64 s2) ∧ wx.cell? ⟨b7, 3, none⟩ = some (.int .u64 s3) ∧ wx.cell? ⟨b9, 0, none⟩ = some (.int .u64 u0) ∧ wx.cell? ⟨b9, 1, none⟩ = some (.int .u64 u1) ∧ wx.cell? ⟨b9, 2, none⟩ = some (.int .u64 u2) ∧ wx.cell? ⟨b9, 3, none⟩ = some (.int .u64 u3) ∧ wx.cell? ⟨bv, 0, none⟩ = some (.int .u64 u0) ∧ wx.cell? ⟨bv, 1, none⟩ = some (.int .u64 u1) ∧ wx.cell? ⟨bv, 2, none⟩ = some (.int .u64 u2) ∧ wx.cell? ⟨bv, 3, none⟩ = some (.int .u64 u3) :=
  ⟨h.1.trans hb, later hb h.2.1, later hb h.2.2.1, later hb h.2.2.2.1, later hb h.2.2.2.2.1, later hb h.2.2.2.2.2.1, later hb h.2.2.2.2.2.2.1, later hb h.2.2.2.2.2.2.2.1, later hb h.2.2.2.2.2.2.2.2.1, later hb h.2.2.2.2.2.2.2.2.2.1, later hb h.2.2.2.2.2.2.2.2.2.2.1, later hb h.2.2.2.2.2.2.2.2.2.2.2.1, later hb h.2.2.2.2.2.2.2.2.2.2.2.2.1, later hb h.2.2.2.2.2.2.2.2.2.2.2.2.2.1, later hb h.2.2.2.2.2.2.2.2.2.2.2.2.2.2.1, later hb h.2.2.2.2.2.2.2.2.2.2.2.2.2.2.2.1, later hb h.2.2.2.2.2.2.2.2.2.2.2.2.2.2.2.2.1, later hb h.2.2.2.2.2.2.2.2.2.2.2.2.2.2.2.2.2.1, later hb h.2.2.2.2.2.2.2.2.2.2.2.2.2.2.2.2.2.2.1, later hb h.2.2.2.2.2.2.2.2.2.2.2.2.2.2.2.2.2.2.2.1, later hb h.2.2.2.2.2.2.2.2.2.2.2.2.2.2.2.2.2.2.2.2.1, later hb h.2.2.2.2.2.2.2.2.2.2.2.2.2.2.2.2.2.2.2.2.2.1, later hb h.2.2.2.2.2.2.2.2.2.2.2.2.2.2.2.2.2.2.2.2.2.2.1, later hb h.2.2.2.2.2.2.2.2.2.2.2.2.2.2.2.2.2.2.2.2.2.2.2.1, later hb h.2.2.2.2.2.2.2.2.2.2.2.2.2.2.2.2.2.2.2.2.2.2.2.2⟩
attribute [local go_sem] run_eq4
set_option maxHeartbeats 2000000 in
theorem sums_any (a0 a1 a2 a3 b0 b1 b2 b3 : Int) (ha : Lim4 a0 a1 a2 a3) (hb : Lim4 b0 b1 b2 b3) (w : World) :
    Calls Try.prog 3 #[.agg #[.int .u64 a0, .int .u64 a1, .int .u64 a2, .int .u64 a3], .agg #[.int .u64 b0, .int .u64 b1, .int .u64 b2, .int .u64 b3]] w fun e w' => e = .returned (.bool true) ∧ Ext w w' := by
  obtain ⟨n, Hn⟩ : ∃ n, Hid (cmpV (val a0 a1 a2 a3) (val b0 b1 b2 b3) = n) := ⟨_, rfl⟩
  have HM12 : Hid (∀ wx, Calls Try.prog 12 #[.agg #[.int .u64 a0, .int .u64 a1, .int .u64 a2, .int .u64 a3], .agg #[.int .u64 b0, .int .u64 b1, .int .u64 b2, .int .u64 b3]] wx fun e w' => e = .returned (.int .i64 n) ∧ Ext wx w') := fun wx =>
    (cmp_any a0 a1 a2 a3 b0 b1 b2 b3 ha hb wx).mono fun _ _ ⟨_, he, hc, hx⟩ => ⟨(cmpV_of hc.out).trans Hn.out ▸ he, hx⟩
  have HM13 : Hid (∀ wx, Calls Try.prog 13 #[.agg #[.int .u64 a0, .int .u64 a1, .int .u64 a2, .int .u64 a3], .agg #[.int .u64 b0, .int .u64 b1, .int .u64 b2, .int .u64 b3]] wx fun e w' => e = .returned (.int .i64 n) ∧ Ext wx w') := fun wx =>
    (refCmp_any a0 a1 a2 a3 b0 b1 b2 b3 ha hb wx).mono fun _ _ ⟨_, he, hc, hx⟩ => ⟨(cmpV_of hc.out).trans Hn.out ▸ he, hx⟩
  have R0 := Row.two w a0 a1 a2 a3 b0 b1 b2 b3
  have HE0 : Hid (Ext w ((w.alloc (.cells #[.int .u64 a0, .int .u64 a1, .int .u64 a2, .int .u64 a3] 24)).alloc (.cells #[.int .u64 b0, .int .u64 b1, .int .u64 b2, .int .u64 b3] 24))) := ((Ext.refl _).alloc _).alloc _
  go_enter Try.func3, Try.ntmps3
  go_wp2_with fail
  refine (add_any _ _ _ _ _ _ _ _ ha hb _).mono ?_
  rintro e w1 ⟨s0, s1, s2, s3, c, rfl, HA, HX⟩
  have HE1 : Hid (Ext w w1) := HE0.out.trans HX
  have RA := R0.1.ext HX
  have RB := R0.2.ext HX
  clear HX HE0 R0
  generalize w.heap.size + 1 = bb at *
  generalize w.heap.size = ba at *
  obtain ⟨zRA, xRA0, xRA1, xRA2, xRA3⟩ := RA
  have RA : Row w1 ba a0 a1 a2 a3 := ⟨zRA, xRA0, xRA1, xRA2, xRA3⟩
  obtain ⟨zRB, xRB0, xRB1, xRB2, xRB3⟩ := RB
  have RB : Row w1 bb b0 b1 b2 b3 := ⟨zRB, xRB0, xRB1, xRB2, xRB3⟩
  go_wp2_with fail
  refine (refAdd_raw _ _ _ _ _ _ _ _ ha hb _).mono ?_
  rintro e w2 ⟨t0, t1, t2, t3, d, rfl, HB, HX⟩
  obtain ⟨⟨rfl, rfl, rfl, rfl⟩, rfl⟩ := addP_one HB.out HA.out
  clear HB HA
  have HEw2 : Hid (Ext w w2) := (HE1.out.alloc _).trans HX
  replace RA := RA.ext (((Ext.refl _).alloc _).trans HX)
  replace RB := RB.ext (((Ext.refl _).alloc _).trans HX)
  have Rb5 := (Row.new w1 s0 s1 s2 s3).ext HX
  clear zRA xRA0 xRA1 xRA2 xRA3 zRB xRB0 xRB1 xRB2 xRB3
  clear HX HE1
  generalize w1.heap.size = b5 at *
  obtain ⟨zRA, xRA0, xRA1, xRA2, xRA3⟩ := RA
  have RA : Row w2 ba a0 a1 a2 a3 := ⟨zRA, xRA0, xRA1, xRA2, xRA3⟩
  obtain ⟨zRB, xRB0, xRB1, xRB2, xRB3⟩ := RB
  have RB : Row w2 bb b0 b1 b2 b3 := ⟨zRB, xRB0, xRB1, xRB2, xRB3⟩
  go_wp2_with fail
  refine (sub_any _ _ _ _ _ _ _ _ ha hb _).mono ?_
  rintro e w3 ⟨u0, u1, u2, u3, l, rfl, HA, HX⟩
  have HEw3 : Hid (Ext w w3) := (HEw2.out.alloc _).trans HX
  replace RA := RA.ext (((Ext.refl _).alloc _).trans HX)
  replace RB := RB.ext (((Ext.refl _).alloc _).trans HX)
  replace Rb5 := Rb5.ext (((Ext.refl _).alloc _).trans HX)
  have Rb7 := (Row.new w2 s0 s1 s2 s3).ext HX
  clear zRA xRA0 xRA1 xRA2 xRA3 zRB xRB0 xRB1 xRB2 xRB3
  clear HX HEw2
  generalize w2.heap.size = b7 at *
  obtain ⟨zRA, xRA0, xRA1, xRA2, xRA3⟩ := RA
  have RA : Row w3 ba a0 a1 a2 a3 := ⟨zRA, xRA0, xRA1, xRA2, xRA3⟩
  obtain ⟨zRB, xRB0, xRB1, xRB2, xRB3⟩ := RB
  have RB : Row w3 bb b0 b1 b2 b3 := ⟨zRB, xRB0, xRB1, xRB2, xRB3⟩
  go_wp2_with fail
  refine (refSub_raw _ _ _ _ _ _ _ _ ha hb _).mono ?_
  rintro e w4 ⟨v0, v1, v2, v3, m, rfl, HB, HX⟩
  obtain ⟨⟨rfl, rfl, rfl, rfl⟩, rfl⟩ := subP_one HB.out HA.out
  clear HB HA
  have HEw4 : Hid (Ext w w4) := (HEw3.out.alloc _).trans HX
  replace RA := RA.ext (((Ext.refl _).alloc _).trans HX)
  replace RB := RB.ext (((Ext.refl _).alloc _).trans HX)
  replace Rb5 := Rb5.ext (((Ext.refl _).alloc _).trans HX)
  replace Rb7 := Rb7.ext (((Ext.refl _).alloc _).trans HX)
  have Rb9 := (Row.new w3 u0 u1 u2 u3).ext HX
  clear zRA xRA0 xRA1 xRA2 xRA3 zRB xRB0 xRB1 xRB2 xRB3
  clear HX HEw3
  generalize w3.heap.size = b9 at *
  go_wp2_with fail
  have RV := Row.new w4 u0 u1 u2 u3
  have HX : Ext w4 (w4.alloc (.cells #[.int .u64 u0, .int .u64 u1, .int .u64 u2, .int .u64 u3] 24)) := (Ext.refl _).alloc _
  have start : Hid ((fun wx : World => Ext w wx ∧ wx.cell? ⟨ba, 0, none⟩ = some (.int .u64 a0) ∧ wx.cell? ⟨ba, 1, none⟩ = some (.int .u64 a1) ∧ wx.cell? ⟨ba, 2, none⟩ = some (.int .u64 a2) ∧ wx.cell? ⟨ba, 3, none⟩ = some (.int .u64 a3) ∧ wx.cell? ⟨bb, 0, none⟩ = some (.int .u64 b0) ∧ wx.cell? ⟨bb, 1, none⟩ = some (.int .u64 b1) ∧ wx.cell? ⟨bb, 2, none⟩ = some (.int .u64 b2) ∧ wx.cell? ⟨bb, 3, none⟩ = some (.int .u64 b3) ∧ wx.cell? ⟨b5, 0, none⟩ = some (.int .u64 s0) ∧ wx.cell? ⟨b5, 1, none⟩ = some (.int .u64 s1) ∧ wx.cell? ⟨b5, 2, none⟩ = some (.int .u64 s2) ∧ wx.cell? ⟨b5, 3, none⟩ = some (.int .u64 s3) ∧ wx.cell? ⟨b7, 0, none⟩ = some (.int .u64 s0) ∧ wx.cell? ⟨b7, 1, none⟩ = some (.int .u64 s1) ∧ wx.cell? ⟨b7, 2, none⟩ = some (.int .u64 s2) ∧ wx.cell? ⟨b7, 3, none⟩ = some (.int .u64 s3) ∧ wx.cell? ⟨b9, 0, none⟩ = some (.int .u64 u0) ∧ wx.cell? ⟨b9, 1, none⟩ = some (.int .u64 u1) ∧ wx.cell? ⟨b9, 2, none⟩ = some (.int .u64 u2) ∧ wx.cell? ⟨b9, 3, none⟩ = some (.int .u64 u3) ∧ wx.cell? ⟨w4.heap.size, 0, none⟩ = some (.int .u64 u0) ∧ wx.cell? ⟨w4.heap.size, 1, none⟩ = some (.int .u64 u1) ∧ wx.cell? ⟨w4.heap.size, 2, none⟩ = some (.int .u64 u2) ∧ wx.cell? ⟨w4.heap.size, 3, none⟩ = some (.int .u64 u3)) (w4.alloc (.cells #[.int .u64 u0, .int .u64 u1, .int .u64 u2, .int .u64 u3] 24)).drew) :=
    keepS ((Ext.refl _).drew) ⟨HEw4.out.trans HX, later HX RA.2.1, later HX RA.2.2.1, later HX RA.2.2.2.1, later HX RA.2.2.2.2, later HX RB.2.1, later HX RB.2.2.1, later HX RB.2.2.2.1, later HX RB.2.2.2.2, later HX Rb5.2.1, later HX Rb5.2.2.1, later HX Rb5.2.2.2.1, later HX Rb5.2.2.2.2, later HX Rb7.2.1, later HX Rb7.2.2.1, later HX Rb7.2.2.2.1, later HX Rb7.2.2.2.2, later HX Rb9.2.1, later HX Rb9.2.2.1, later HX Rb9.2.2.2.1, later HX Rb9.2.2.2.2, RV.2.1, RV.2.2.1, RV.2.2.2.1, RV.2.2.2.2⟩
  clear HX RV RA RB Rb5 Rb7 Rb9 HEw4
  generalize w4.alloc (.cells #[.int .u64 u0, .int .u64 u1, .int .u64 u2, .int .u64 u3] 24) = W at *
  generalize w4.heap.size = bv at *
  have q1 : eq4 s0 s1 s2 s3 s0 s1 s2 s3 = true := by simp [eq4]
  have q2 : eq4 u0 u1 u2 u3 u0 u1 u2 u3 = true := by simp [eq4]
  go_region_held3 (fun wx : World => Ext w wx ∧ wx.cell? ⟨ba, 0, none⟩ = some (.int .u64 a0) ∧ wx.cell? ⟨ba, 1, none⟩ = some (.int .u64 a1) ∧ wx.cell? ⟨ba, 2, none⟩ = some (.int .u64 a2) ∧ wx.cell? ⟨ba, 3, none⟩ = some (.int .u64 a3) ∧ wx.cell? ⟨bb, 0, none⟩ = some (.int .u64 b0) ∧ wx.cell? ⟨bb, 1, none⟩ = some (.int .u64 b1) ∧ wx.cell? ⟨bb, 2, none⟩ = some (.int .u64 b2) ∧ wx.cell? ⟨bb, 3, none⟩ = some (.int .u64 b3) ∧ wx.cell? ⟨b5, 0, none⟩ = some (.int .u64 s0) ∧ wx.cell? ⟨b5, 1, none⟩ = some (.int .u64 s1) ∧ wx.cell? ⟨b5, 2, none⟩ = some (.int .u64 s2) ∧ wx.cell? ⟨b5, 3, none⟩ = some (.int .u64 s3) ∧ wx.cell? ⟨b7, 0, none⟩ = some (.int .u64 s0) ∧ wx.cell? ⟨b7, 1, none⟩ = some (.int .u64 s1) ∧ wx.cell? ⟨b7, 2, none⟩ = some (.int .u64 s2) ∧ wx.cell? ⟨b7, 3, none⟩ = some (.int .u64 s3) ∧ wx.cell? ⟨b9, 0, none⟩ = some (.int .u64 u0) ∧ wx.cell? ⟨b9, 1, none⟩ = some (.int .u64 u1) ∧ wx.cell? ⟨b9, 2, none⟩ = some (.int .u64 u2) ∧ wx.cell? ⟨b9, 3, none⟩ = some (.int .u64 u3) ∧ wx.cell? ⟨bv, 0, none⟩ = some (.int .u64 u0) ∧ wx.cell? ⟨bv, 1, none⟩ = some (.int .u64 u1) ∧ wx.cell? ⟨bv, 2, none⟩ = some (.int .u64 u2) ∧ wx.cell? ⟨bv, 3, none⟩ = some (.int .u64 u3)) (first | exact start.out | exact keepS (by assumption) (by assumption)) (first | (go_at_call 12; refine (HM12.out _).mono ?_; rintro e wy ⟨rfl, HX⟩) | (go_at_call 13; refine (HM13.out _).mono ?_; rintro e wy ⟨rfl, HX⟩) | (go_at_call 14; refine (long_any _).mono ?_; rintro e wy ⟨rfl, HX⟩) | (go_at_call 15; refine (awake_any _).mono ?_; rintro e wy ⟨rfl, HX⟩))
  have hE : Ext w wy := (‹Ext w wy ∧ _›).1
  clear start q1 q2
  go_wp2
  go_ret
  exact ⟨rfl, hE⟩
end Go.Proofs.Ytfndloakoknpaaa
