/-
  The document's inverse modulo q (sandglassref03.Inv), called; nothing old is turned.
-/
import Derived.Test.YtnaiccfdbapdpaaDoorInvMath
namespace Go.Proofs.YtnaiccfdbapdpaaDoor
open Go.RowKit
def Ord (bz b3 b4 b5 b6 b7 : Nat) : Prop := bz < b3 ∧ b3 < b4 ∧ b4 < b5 ∧ b5 < b6 ∧ b6 < b7
/-- The state of Inv's run. -/
def PI (w wr : World) (bz b3 b4 b5 b6 b7 : Nat) (u0 u1 u2 u3 v0 v1 v2 v3 x0 x1 x2 x3 y0 y1 y2 y3 : Int) : Prop := RowF wr bz 0 0 0 0 ∧ RowF wr b3 u0 u1 u2 u3 ∧ RowF wr b4 v0 v1 v2 v3 ∧ RowF wr b5 x0 x1 x2 x3 ∧ RowF wr b6 y0 y1 y2 y3 ∧ Row wr b7 1 0 0 0 ∧ Ext w wr
theorem PI.ext {w wr wy : World} {bz b3 b4 b5 b6 b7 : Nat} {u0 u1 u2 u3 v0 v1 v2 v3 x0 x1 x2 x3 y0 y1 y2 y3 : Int} (h : PI w wr bz b3 b4 b5 b6 b7 u0 u1 u2 u3 v0 v1 v2 v3 x0 x1 x2 x3 y0 y1 y2 y3) (hx : Ext wr wy) : PI w wy bz b3 b4 b5 b6 b7 u0 u1 u2 u3 v0 v1 v2 v3 x0 x1 x2 x3 y0 y1 y2 y3 :=
  ⟨h.1.ext hx, h.2.1.ext hx, h.2.2.1.ext hx, h.2.2.2.1.ext hx, h.2.2.2.2.1.ext hx, h.2.2.2.2.2.1.ext hx, h.2.2.2.2.2.2.trans hx⟩
theorem PI.set3 {w wr : World} {bz b3 b4 b5 b6 b7 : Nat} {u0 u1 u2 u3 v0 v1 v2 v3 x0 x1 x2 x3 y0 y1 y2 y3 r0 r1 r2 r3 : Int} (h : PI w wr bz b3 b4 b5 b6 b7 u0 u1 u2 u3 v0 v1 v2 v3 x0 x1 x2 x3 y0 y1 y2 y3) (ho : Ord bz b3 b4 b5 b6 b7) (hn : SizeLe w b3) : PI w ((((wr.setCell ⟨b3, 0, none⟩ (.int .u64 r0)).setCell ⟨b3, 1, none⟩ (.int .u64 r1)).setCell ⟨b3, 2, none⟩ (.int .u64 r2)).setCell ⟨b3, 3, none⟩ (.int .u64 r3)) bz b3 b4 b5 b6 b7 r0 r1 r2 r3 v0 v1 v2 v3 x0 x1 x2 x3 y0 y1 y2 y3 :=
  ⟨(((h.1.other (by unfold Ord at ho; omega)).other (by unfold Ord at ho; omega)).other (by unfold Ord at ho; omega)).other (by unfold Ord at ho; omega), RowF.set h.2.1, (((h.2.2.1.other (by unfold Ord at ho; omega)).other (by unfold Ord at ho; omega)).other (by unfold Ord at ho; omega)).other (by unfold Ord at ho; omega), (((h.2.2.2.1.other (by unfold Ord at ho; omega)).other (by unfold Ord at ho; omega)).other (by unfold Ord at ho; omega)).other (by unfold Ord at ho; omega), (((h.2.2.2.2.1.other (by unfold Ord at ho; omega)).other (by unfold Ord at ho; omega)).other (by unfold Ord at ho; omega)).other (by unfold Ord at ho; omega), (((h.2.2.2.2.2.1.other (by unfold Ord at ho; omega)).other (by unfold Ord at ho; omega)).other (by unfold Ord at ho; omega)).other (by unfold Ord at ho; omega), Ext.st hn (Ext.st hn (Ext.st hn (Ext.st hn h.2.2.2.2.2.2)))⟩
theorem PI.set4 {w wr : World} {bz b3 b4 b5 b6 b7 : Nat} {u0 u1 u2 u3 v0 v1 v2 v3 x0 x1 x2 x3 y0 y1 y2 y3 r0 r1 r2 r3 : Int} (h : PI w wr bz b3 b4 b5 b6 b7 u0 u1 u2 u3 v0 v1 v2 v3 x0 x1 x2 x3 y0 y1 y2 y3) (ho : Ord bz b3 b4 b5 b6 b7) (hn : SizeLe w b4) : PI w ((((wr.setCell ⟨b4, 0, none⟩ (.int .u64 r0)).setCell ⟨b4, 1, none⟩ (.int .u64 r1)).setCell ⟨b4, 2, none⟩ (.int .u64 r2)).setCell ⟨b4, 3, none⟩ (.int .u64 r3)) bz b3 b4 b5 b6 b7 u0 u1 u2 u3 r0 r1 r2 r3 x0 x1 x2 x3 y0 y1 y2 y3 :=
  ⟨(((h.1.other (by unfold Ord at ho; omega)).other (by unfold Ord at ho; omega)).other (by unfold Ord at ho; omega)).other (by unfold Ord at ho; omega), (((h.2.1.other (by unfold Ord at ho; omega)).other (by unfold Ord at ho; omega)).other (by unfold Ord at ho; omega)).other (by unfold Ord at ho; omega), RowF.set h.2.2.1, (((h.2.2.2.1.other (by unfold Ord at ho; omega)).other (by unfold Ord at ho; omega)).other (by unfold Ord at ho; omega)).other (by unfold Ord at ho; omega), (((h.2.2.2.2.1.other (by unfold Ord at ho; omega)).other (by unfold Ord at ho; omega)).other (by unfold Ord at ho; omega)).other (by unfold Ord at ho; omega), (((h.2.2.2.2.2.1.other (by unfold Ord at ho; omega)).other (by unfold Ord at ho; omega)).other (by unfold Ord at ho; omega)).other (by unfold Ord at ho; omega), Ext.st hn (Ext.st hn (Ext.st hn (Ext.st hn h.2.2.2.2.2.2)))⟩
theorem PI.set5 {w wr : World} {bz b3 b4 b5 b6 b7 : Nat} {u0 u1 u2 u3 v0 v1 v2 v3 x0 x1 x2 x3 y0 y1 y2 y3 r0 r1 r2 r3 : Int} (h : PI w wr bz b3 b4 b5 b6 b7 u0 u1 u2 u3 v0 v1 v2 v3 x0 x1 x2 x3 y0 y1 y2 y3) (ho : Ord bz b3 b4 b5 b6 b7) (hn : SizeLe w b5) : PI w ((((wr.setCell ⟨b5, 0, none⟩ (.int .u64 r0)).setCell ⟨b5, 1, none⟩ (.int .u64 r1)).setCell ⟨b5, 2, none⟩ (.int .u64 r2)).setCell ⟨b5, 3, none⟩ (.int .u64 r3)) bz b3 b4 b5 b6 b7 u0 u1 u2 u3 v0 v1 v2 v3 r0 r1 r2 r3 y0 y1 y2 y3 :=
  ⟨(((h.1.other (by unfold Ord at ho; omega)).other (by unfold Ord at ho; omega)).other (by unfold Ord at ho; omega)).other (by unfold Ord at ho; omega), (((h.2.1.other (by unfold Ord at ho; omega)).other (by unfold Ord at ho; omega)).other (by unfold Ord at ho; omega)).other (by unfold Ord at ho; omega), (((h.2.2.1.other (by unfold Ord at ho; omega)).other (by unfold Ord at ho; omega)).other (by unfold Ord at ho; omega)).other (by unfold Ord at ho; omega), RowF.set h.2.2.2.1, (((h.2.2.2.2.1.other (by unfold Ord at ho; omega)).other (by unfold Ord at ho; omega)).other (by unfold Ord at ho; omega)).other (by unfold Ord at ho; omega), (((h.2.2.2.2.2.1.other (by unfold Ord at ho; omega)).other (by unfold Ord at ho; omega)).other (by unfold Ord at ho; omega)).other (by unfold Ord at ho; omega), Ext.st hn (Ext.st hn (Ext.st hn (Ext.st hn h.2.2.2.2.2.2)))⟩
theorem PI.set6 {w wr : World} {bz b3 b4 b5 b6 b7 : Nat} {u0 u1 u2 u3 v0 v1 v2 v3 x0 x1 x2 x3 y0 y1 y2 y3 r0 r1 r2 r3 : Int} (h : PI w wr bz b3 b4 b5 b6 b7 u0 u1 u2 u3 v0 v1 v2 v3 x0 x1 x2 x3 y0 y1 y2 y3) (ho : Ord bz b3 b4 b5 b6 b7) (hn : SizeLe w b6) : PI w ((((wr.setCell ⟨b6, 0, none⟩ (.int .u64 r0)).setCell ⟨b6, 1, none⟩ (.int .u64 r1)).setCell ⟨b6, 2, none⟩ (.int .u64 r2)).setCell ⟨b6, 3, none⟩ (.int .u64 r3)) bz b3 b4 b5 b6 b7 u0 u1 u2 u3 v0 v1 v2 v3 x0 x1 x2 x3 r0 r1 r2 r3 :=
  ⟨(((h.1.other (by unfold Ord at ho; omega)).other (by unfold Ord at ho; omega)).other (by unfold Ord at ho; omega)).other (by unfold Ord at ho; omega), (((h.2.1.other (by unfold Ord at ho; omega)).other (by unfold Ord at ho; omega)).other (by unfold Ord at ho; omega)).other (by unfold Ord at ho; omega), (((h.2.2.1.other (by unfold Ord at ho; omega)).other (by unfold Ord at ho; omega)).other (by unfold Ord at ho; omega)).other (by unfold Ord at ho; omega), (((h.2.2.2.1.other (by unfold Ord at ho; omega)).other (by unfold Ord at ho; omega)).other (by unfold Ord at ho; omega)).other (by unfold Ord at ho; omega), RowF.set h.2.2.2.2.1, (((h.2.2.2.2.2.1.other (by unfold Ord at ho; omega)).other (by unfold Ord at ho; omega)).other (by unfold Ord at ho; omega)).other (by unfold Ord at ho; omega), Ext.st hn (Ext.st hn (Ext.st hn (Ext.st hn h.2.2.2.2.2.2)))⟩
def InvS (A u0 u1 u2 u3 v0 v1 v2 v3 x0 x1 x2 x3 y0 y1 y2 y3 : Int) (k : Nat) : Prop := Lim4 u0 u1 u2 u3 ∧ Lim4 v0 v1 v2 v3 ∧ Lim4 x0 x1 x2 x3 ∧ Lim4 y0 y1 y2 y3 ∧ val x0 x1 x2 x3 < FQ ∧ val y0 y1 y2 y3 < FQ ∧ InvI QN A (val u0 u1 u2 u3).toNat (val v0 v1 v2 v3).toNat (val x0 x1 x2 x3) (val y0 y1 y2 y3) k
theorem InvS.swap {A u0 u1 u2 u3 v0 v1 v2 v3 x0 x1 x2 x3 y0 y1 y2 y3 : Int} {k : Nat} (h : InvS A u0 u1 u2 u3 v0 v1 v2 v3 x0 x1 x2 x3 y0 y1 y2 y3 k) : InvS A v0 v1 v2 v3 u0 u1 u2 u3 y0 y1 y2 y3 x0 x1 x2 x3 k := ⟨h.2.1, h.1, h.2.2.2.1, h.2.2.1, h.2.2.2.2.2.1, h.2.2.2.2.1, h.2.2.2.2.2.2.swap⟩
theorem hv_q {x0 x1 x2 x3 r0 r1 r2 r3 : Int} (h : HvP x0 x1 x2 x3 r0 r1 r2 r3) : 2 * val r0 r1 r2 r3 = val x0 x1 x2 x3 ∨ 2 * val r0 r1 r2 r3 = val x0 x1 x2 x3 + (QN : Int) := FQ_nat ▸ h.2.2
theorem invS_a {A u0 u1 u2 u3 v0 v1 v2 v3 x0 x1 x2 x3 y0 y1 y2 y3 p0 p1 p2 p3 r0 r1 r2 r3 : Int} {k : Nat} (h : InvS A u0 u1 u2 u3 v0 v1 v2 v3 x0 x1 x2 x3 y0 y1 y2 y3 k) (he : u0 % 2 = 0) (hp : HalfP u0 u1 u2 u3 false p0 p1 p2 p3) (hr : HvP x0 x1 x2 x3 r0 r1 r2 r3) : InvS A p0 p1 p2 p3 v0 v1 v2 v3 r0 r1 r2 r3 y0 y1 y2 y3 (k + 1) := by
  obtain ⟨h1, h2, h3, h4, h5, h6, h7⟩ := h
  refine ⟨hp.1, h2, hr.1, h4, hr.2.1, h6, invI_a QN_odd ?_ (hv_q hr) h7⟩
  have e1 := hp.2
  have e2 := (val_bd h1).1
  have e3 : val u0 u1 u2 u3 % 2 = 0 := by unfold val; omega
  simp at e1
  omega
theorem invS_c {A u0 u1 u2 u3 v0 v1 v2 v3 x0 x1 x2 x3 y0 y1 y2 y3 p0 p1 p2 p3 r0 r1 r2 r3 : Int} {k : Nat} {c : Bool} (h : InvS A u0 u1 u2 u3 v0 v1 v2 v3 x0 x1 x2 x3 y0 y1 y2 y3 k) (he : ¬ u0 % 2 = 0) (hf : ¬ v0 % 2 = 0) (hle : val v0 v1 v2 v3 ≤ val u0 u1 u2 u3) (h1' : eq4 u0 u1 u2 u3 1 0 0 0 = false) (hp : SubP u0 u1 u2 u3 v0 v1 v2 v3 p0 p1 p2 p3 c) (hr : QMod (val x0 x1 x2 x3 - val y0 y1 y2 y3) r0 r1 r2 r3) : InvS A p0 p1 p2 p3 v0 v1 v2 v3 r0 r1 r2 r3 y0 y1 y2 y3 (k + 1) := by
  obtain ⟨h1, h2, h3, h4, h5, h6, h7⟩ := h
  have e2 := val_bd h1
  have e3 := val_bd h2
  have e4 : val u0 u1 u2 u3 % 2 = 1 := by unfold val; omega
  have e5 : val v0 v1 v2 v3 % 2 = 1 := by unfold val; omega
  have e6 := val_bd hp.1
  have e7 := hp.2
  have e8 : val p0 p1 p2 p3 = val u0 u1 u2 u3 - val v0 v1 v2 v3 := by cases c <;> simp at e7 <;> omega
  have hu1 : (val u0 u1 u2 u3).toNat ≠ 1 := by
    intro e
    have : val u0 u1 u2 u3 = val 1 0 0 0 := by rw [show val 1 0 0 0 = 1 from by decide]; omega
    rw [(eq4_iff h1 ⟨lim_of _ rfl, lim_of _ rfl, lim_of _ rfl, lim_of _ rfl⟩).2 this] at h1'
    cases h1'
  have hd : (QN : Int) ∣ val r0 r1 r2 r3 - (val x0 x1 x2 x3 - val y0 y1 y2 y3) := by
    rw [hr.2, FQ_nat, Int.emod_def]
    generalize val x0 x1 x2 x3 - val y0 y1 y2 y3 = d
    refine ⟨-(d / QN), ?_⟩
    rw [Int.mul_neg]
    omega
  have key := invI_c (by omega) (by omega) (by omega) hu1 hd h7
  rw [show (val u0 u1 u2 u3).toNat - (val v0 v1 v2 v3).toNat = (val p0 p1 p2 p3).toNat from by omega] at key
  exact ⟨hp.1, h2, hr.1, h4, hr.less, h6, key⟩
theorem invS_end {A u0 u1 u2 u3 v0 v1 v2 v3 x0 x1 x2 x3 y0 y1 y2 y3 : Int} {k : Nat} (h : InvS A u0 u1 u2 u3 v0 v1 v2 v3 x0 x1 x2 x3 y0 y1 y2 y3 k) : k < 2000 := invI_end h.2.2.2.2.2.2
theorem invS_one {A u0 u1 u2 u3 v0 v1 v2 v3 x0 x1 x2 x3 y0 y1 y2 y3 : Int} {k : Nat} (hA : ¬ A % FQ = 0) (h : InvS A u0 u1 u2 u3 v0 v1 v2 v3 x0 x1 x2 x3 y0 y1 y2 y3 k) (he : eq4 u0 u1 u2 u3 1 0 0 0 = true) : InvP A x0 x1 x2 x3 := by
  have hv := (eq4_iff h.1 ⟨lim_of _ rfl, lim_of _ rfl, lim_of _ rfl, lim_of _ rfl⟩).1 he
  have h7 := h.2.2.2.2.2.2
  rw [hv, show (val 1 0 0 0).toNat = 1 from by decide] at h7
  exact ⟨h.2.2.1, h.2.2.2.2.1, fun hz => absurd hz hA, fun _ => invI_one h7⟩
theorem invS_start {A m0 m1 m2 m3 : Int} (hm : QMod A m0 m1 m2 m3) (h : eq4 m0 m1 m2 m3 0 0 0 0 = false) : ¬ A % FQ = 0 ∧ InvS A m0 m1 m2 m3 17562291160714782033 13611842547513532036 18446744073709551615 18446744069414584320 1 0 0 0 0 0 0 0 0 := by
  have hl : Lim4 0 0 0 0 := ⟨lim_of _ rfl, lim_of _ rfl, lim_of _ rfl, lim_of _ rfl⟩
  have hb := val_bd hm.1
  have hne : ¬ val m0 m1 m2 m3 = 0 := by
    intro e
    rw [(eq4_iff hm.1 hl).2 (by rw [e]; decide)] at h
    cases h
  refine ⟨by rw [← hm.2]; exact hne, hm.1, lim_FQ, ⟨lim_of _ rfl, lim_of _ rfl, lim_of _ rfl, lim_of _ rfl⟩, hl, by decide, by decide, ?_⟩
  have hs := invI_start (A := A) (u := (val m0 m1 m2 m3).toNat) (by rw [← hm.2]; omega) (by omega)
  rw [val_FQ, show FQ.toNat = QN from by decide, show val 1 0 0 0 = 1 from by decide, show val 0 0 0 0 = 0 from by decide]
  exact hs
theorem inv_nil {A m0 m1 m2 m3 : Int} (hm : QMod A m0 m1 m2 m3) (h : eq4 m0 m1 m2 m3 0 0 0 0 = true) : InvP A m0 m1 m2 m3 := by
  have hv := (eq4_iff hm.1 ⟨lim_of _ rfl, lim_of _ rfl, lim_of _ rfl, lim_of _ rfl⟩).1 h
  rw [show val 0 0 0 0 = 0 from by decide] at hv
  refine ⟨hm.1, hm.less, fun _ => hv, fun hz => absurd ?_ hz⟩
  rw [← hm.2]
  exact hv
attribute [local go_sem] run_eq4
set_option maxHeartbeats 4000000 in
theorem refSInv_any (a0 a1 a2 a3 : Int) (ha : Lim4 a0 a1 a2 a3) (w : World) :
    Calls Tryd.prog 36 #[.agg #[.int .u64 a0, .int .u64 a1, .int .u64 a2, .int .u64 a3]] w fun e w' => ∃ r0 r1 r2 r3 : Int, e = .returned (.agg #[.int .u64 r0, .int .u64 r1, .int .u64 r2, .int .u64 r3]) ∧ Hid (InvP (val a0 a1 a2 a3) r0 r1 r2 r3) ∧ Ext w w' := by
  have RZ := RowF.new (w.alloc (.cells #[.int .u64 a0, .int .u64 a1, .int .u64 a2, .int .u64 a3] 26)) 0 0 0 0
  rw [show (w.alloc (.cells #[.int .u64 a0, .int .u64 a1, .int .u64 a2, .int .u64 a3] 26)).heap.size = w.heap.size + 1 from by simp] at RZ
  have HE0 : Hid (Ext w ((w.alloc (.cells #[.int .u64 a0, .int .u64 a1, .int .u64 a2, .int .u64 a3] 26)).alloc (.cells #[.int .u64 0, .int .u64 0, .int .u64 0, .int .u64 0] 26))) := ((Ext.refl _).alloc _).alloc _
  have HB : SizeLe w (w.heap.size + 1) := by unfold SizeLe; omega
  go_enter Tryd.func36, Tryd.ntmps36
  go_wp2_with fail
  refine (refSMod_any _ _ _ _ ha _).mono ?_
  rintro e w1 ⟨m0, m1, m2, m3, rfl, HM, HX⟩
  have RZ1 := RZ.ext HX
  have HE1 : Hid (Ext w w1) := HE0.out.trans HX
  clear HX RZ HE0
  go_wp2_with fail
  refine (refOrder_any _).mono ?_
  rintro e w2 ⟨rfl, HX⟩
  have RZ2 := RZ1.ext HX
  have HE2 : Hid (Ext w w2) := HE1.out.trans HX
  clear HX RZ1 HE1
  generalize w.heap.size + 1 = bz at *
  have o3 : bz < w2.heap.size := RZ2.1.1
  have RU := (RowF.new w2 m0 m1 m2 m3).ext ((Ext.refl _).alloc (.cells #[.int .u64 17562291160714782033, .int .u64 13611842547513532036, .int .u64 18446744073709551615, .int .u64 18446744069414584320] 26))
  have RV := RowF.new (w2.alloc (.cells #[.int .u64 m0, .int .u64 m1, .int .u64 m2, .int .u64 m3] 26)) 17562291160714782033 13611842547513532036 18446744073709551615 18446744069414584320
  rw [show (w2.alloc (.cells #[.int .u64 m0, .int .u64 m1, .int .u64 m2, .int .u64 m3] 26)).heap.size = w2.heap.size + 1 from by simp] at RV
  have RZ3 := RZ2.ext (((Ext.refl _).alloc (.cells #[.int .u64 m0, .int .u64 m1, .int .u64 m2, .int .u64 m3] 26)).alloc (.cells #[.int .u64 17562291160714782033, .int .u64 13611842547513532036, .int .u64 18446744073709551615, .int .u64 18446744069414584320] 26))
  have HE3 : Hid (Ext w ((w2.alloc (.cells #[.int .u64 m0, .int .u64 m1, .int .u64 m2, .int .u64 m3] 26)).alloc (.cells #[.int .u64 17562291160714782033, .int .u64 13611842547513532036, .int .u64 18446744073709551615, .int .u64 18446744069414584320] 26))) := (HE2.out.alloc _).alloc _
  have N3 : SizeLe w w2.heap.size := HE2.out.size
  clear RZ2 HE2
  go_wp2_with fail
  generalize (w2.alloc (.cells #[.int .u64 m0, .int .u64 m1, .int .u64 m2, .int .u64 m3] 26)).alloc (.cells #[.int .u64 17562291160714782033, .int .u64 13611842547513532036, .int .u64 18446744073709551615, .int .u64 18446744069414584320] 26) = W3 at *
  generalize w2.heap.size = b3 at *
  refine (refSmall_any _ _).mono ?_
  rintro e w4 ⟨rfl, HX⟩
  have o5 : b3 + 1 < w4.heap.size := (RV.ext HX).1.1
  have RX := (RowF.new w4 1 0 0 0).ext ((Ext.refl _).alloc (.cells #[.int .u64 0, .int .u64 0, .int .u64 0, .int .u64 0] 26))
  have RY := RowF.new (w4.alloc (.cells #[.int .u64 1, .int .u64 0, .int .u64 0, .int .u64 0] 26)) 0 0 0 0
  rw [show (w4.alloc (.cells #[.int .u64 1, .int .u64 0, .int .u64 0, .int .u64 0] 26)).heap.size = w4.heap.size + 1 from by simp] at RY
  have HXa : Ext W3 ((w4.alloc (.cells #[.int .u64 1, .int .u64 0, .int .u64 0, .int .u64 0] 26)).alloc (.cells #[.int .u64 0, .int .u64 0, .int .u64 0, .int .u64 0] 26)) := (HX.alloc _).alloc _
  have RU5 := RU.ext HXa
  have RV5 := RV.ext HXa
  have RZ5 := RZ3.ext HXa
  have HE5 : Hid (Ext w ((w4.alloc (.cells #[.int .u64 1, .int .u64 0, .int .u64 0, .int .u64 0] 26)).alloc (.cells #[.int .u64 0, .int .u64 0, .int .u64 0, .int .u64 0] 26))) := HE3.out.trans HXa
  clear HX HXa RU RV RZ3 HE3
  go_wp2_with fail
  generalize (w4.alloc (.cells #[.int .u64 1, .int .u64 0, .int .u64 0, .int .u64 0] 26)).alloc (.cells #[.int .u64 0, .int .u64 0, .int .u64 0, .int .u64 0] 26) = W5 at *
  generalize w4.heap.size = b5 at *
  refine (refSmall_any _ _).mono ?_
  rintro e w6 ⟨rfl, HX⟩
  have o7 : b5 + 1 < w6.heap.size := (RY.ext HX).1.1
  have RO := Row.new w6 1 0 0 0
  have HXa : Ext W5 (w6.alloc (.cells #[.int .u64 1, .int .u64 0, .int .u64 0, .int .u64 0] 26)) := HX.alloc _
  have HP0 : PI w (w6.alloc (.cells #[.int .u64 1, .int .u64 0, .int .u64 0, .int .u64 0] 26)) bz b3 (b3 + 1) b5 (b5 + 1) w6.heap.size m0 m1 m2 m3 17562291160714782033 13611842547513532036 18446744073709551615 18446744069414584320 1 0 0 0 0 0 0 0 := ⟨RZ5.ext HXa, RU5.ext HXa, RV5.ext HXa, RX.ext HXa, RY.ext HXa, RO, HE5.out.trans HXa⟩
  clear HX HXa RU5 RV5 RX RY RZ5 RO HE5
  have HO : Ord bz b3 (b3 + 1) b5 (b5 + 1) w6.heap.size := ⟨o3, by omega, o5, by omega, o7⟩
  have N4 : SizeLe w (b3 + 1) := by unfold SizeLe at *; omega
  have N5 : SizeLe w b5 := by unfold SizeLe at *; omega
  have N6 : SizeLe w (b5 + 1) := by unfold SizeLe at *; omega
  obtain ⟨⟨qul, qu0, qu1, qu2, qu3⟩, qu4, qu5, qu6, qu7⟩ := HP0.2.1
  obtain ⟨⟨qvl, qv0, qv1, qv2, qv3⟩, qv4, qv5, qv6, qv7⟩ := HP0.2.2.1
  obtain ⟨⟨qxl, qx0, qx1, qx2, qx3⟩, qx4, qx5, qx6, qx7⟩ := HP0.2.2.2.1
  obtain ⟨⟨qyl, qy0, qy1, qy2, qy3⟩, qy4, qy5, qy6, qy7⟩ := HP0.2.2.2.2.1
  obtain ⟨qol, qo0, qo1, qo2, qo3⟩ := HP0.2.2.2.2.2.1
  obtain ⟨⟨zl, z0, z1, z2, z3⟩, z4, z5, z6, z7⟩ := HP0.1
  cases hz : eq4 m0 m1 m2 m3 0 0 0 0
  case true =>
    have HF : Hid (InvP (val a0 a1 a2 a3) m0 m1 m2 m3) := inv_nil HM.out hz
    have HE : Hid (Ext w (w6.alloc (.cells #[.int .u64 1, .int .u64 0, .int .u64 0, .int .u64 0] 26))) := HP0.2.2.2.2.2.2
    clear HM HP0
    go_wp2
    refine bodyPost_ret (v := .agg #[.int .u64 m0, .int .u64 m1, .int .u64 m2, .int .u64 m3]) (by simp [results, Tryd.results36, go_sem, z0, z1, z2, z3]) rfl ⟨m0, m1, m2, m3, rfl, HF, ?_⟩
    exact Ext.st HB (Ext.st HB (Ext.st HB (Ext.st HB HE.out)))
  case false =>
    obtain ⟨hA', hS'⟩ := invS_start HM.out hz
    have HA : Hid (¬ (val a0 a1 a2 a3) % FQ = 0) := hA'
    have HS0 : Hid (InvS (val a0 a1 a2 a3) m0 m1 m2 m3 17562291160714782033 13611842547513532036 18446744073709551615 18446744069414584320 1 0 0 0 0 0 0 0 0) := hS'
    clear hA' hS' HM
    go_wp2
    clear qul qu0 qu1 qu2 qu3 qu4 qu5 qu6 qu7 qvl qv0 qv1 qv2 qv3 qv4 qv5 qv6 qv7 qxl qx0 qx1 qx2 qx3 qx4 qx5 qx6 qx7 qyl qy0 qy1 qy2 qy3 qy4 qy5 qy6 qy7 qol qo0 qo1 qo2 qo3 zl z0 z1 z2 z3 z4 z5 z6 z7 hz
    generalize w6.alloc (.cells #[.int .u64 1, .int .u64 0, .int .u64 0, .int .u64 0] 26) = W7 at *
    generalize w6.heap.size = b7 at *
    generalize hb4 : b3 + 1 = b4 at *
    generalize hb6 : b5 + 1 = b6 at *
    clear o3 o5 o7 hb4 hb6
    go_loopw [8] (fun u8 wr => ∃ (k : Nat) (u0 u1 u2 u3 v0 v1 v2 v3 x0 x1 x2 x3 y0 y1 y2 y3 : Int), u8 = .int .i64 k ∧ PI w wr bz b3 b4 b5 b6 b7 u0 u1 u2 u3 v0 v1 v2 v3 x0 x1 x2 x3 y0 y1 y2 y3 ∧ Hid (InvS (val a0 a1 a2 a3) u0 u1 u2 u3 v0 v1 v2 v3 x0 x1 x2 x3 y0 y1 y2 y3 k)) (fun u8 _ => 2000 - (intOf u8).toNat)
    case atStart => exact ⟨0, m0, m1, m2, m3, 17562291160714782033, 13611842547513532036, 18446744073709551615, 18446744069414584320, 1, 0, 0, 0, 0, 0, 0, 0, rfl, HP0, HS0⟩
    case round =>
      obtain ⟨k, u0, u1, u2, u3, v0, v1, v2, v3, x0, x1, x2, x3, y0, y1, y2, y3, rfl, HP, HI⟩ := hrel
      clear HP0 HS0
      have hk := invS_end HI.out
      have hki : (k : Int) < 2000 := by omega
      have dk : decide ((k : Int) < 2000) = true := by simpa using hki
      obtain ⟨⟨qul, qu0, qu1, qu2, qu3⟩, qu4, qu5, qu6, qu7⟩ := HP.2.1
      obtain ⟨⟨qvl, qv0, qv1, qv2, qv3⟩, qv4, qv5, qv6, qv7⟩ := HP.2.2.1
      obtain ⟨⟨qxl, qx0, qx1, qx2, qx3⟩, qx4, qx5, qx6, qx7⟩ := HP.2.2.2.1
      obtain ⟨⟨qyl, qy0, qy1, qy2, qy3⟩, qy4, qy5, qy6, qy7⟩ := HP.2.2.2.2.1
      obtain ⟨qol, qo0, qo1, qo2, qo3⟩ := HP.2.2.2.2.2.1
      have n34 : b3 ≠ b4 := by unfold Ord at HO; omega
      have n35 : b3 ≠ b5 := by unfold Ord at HO; omega
      have n36 : b3 ≠ b6 := by unfold Ord at HO; omega
      have n45 : b4 ≠ b5 := by unfold Ord at HO; omega
      have n46 : b4 ≠ b6 := by unfold Ord at HO; omega
      cases hu : eq4 u0 u1 u2 u3 1 0 0 0
      case true =>
        have HF : Hid (InvP (val a0 a1 a2 a3) x0 x1 x2 x3) := invS_one HA.out HI.out hu
        obtain ⟨⟨zl, z0, z1, z2, z3⟩, z4, z5, z6, z7⟩ := HP.1
        have HE : Hid (Ext w wr) := HP.2.2.2.2.2.2
        clear HI
        go_wp2
        refine bodyPost_ret (v := .agg #[.int .u64 x0, .int .u64 x1, .int .u64 x2, .int .u64 x3]) (by simp [results, Tryd.results36, go_sem, z0, z1, z2, z3]) rfl ⟨x0, x1, x2, x3, rfl, HF, ?_⟩
        exact Ext.st HB (Ext.st HB (Ext.st HB (Ext.st HB HE.out)))
      case false =>
        cases hv : eq4 v0 v1 v2 v3 1 0 0 0
        case true =>
          have HF : Hid (InvP (val a0 a1 a2 a3) y0 y1 y2 y3) := invS_one HA.out HI.out.swap hv
          obtain ⟨⟨zl, z0, z1, z2, z3⟩, z4, z5, z6, z7⟩ := HP.1
          have HE : Hid (Ext w wr) := HP.2.2.2.2.2.2
          clear HI
          go_wp2
          refine bodyPost_ret (v := .agg #[.int .u64 y0, .int .u64 y1, .int .u64 y2, .int .u64 y3]) (by simp [results, Tryd.results36, go_sem, z0, z1, z2, z3]) rfl ⟨y0, y1, y2, y3, rfl, HF, ?_⟩
          exact Ext.st HB (Ext.st HB (Ext.st HB (Ext.st HB HE.out)))
        case false =>
          by_cases eu : u0 % 2 = 0
          · have HEv : Hid (u0 % 2 = 0) := eu
            have htu : u0.tmod 2 = 0 := by rw [Int.tmod_eq_emod_of_nonneg HI.out.1.1.1]; exact eu
            clear eu
            go_wp2_with fail
            refine (refhalf_any _ _ _ _ _ HI.out.1 _).mono ?_
            rintro e wA ⟨p0, p1, p2, p3, rfl, HH1, HXA⟩
            have HPA := HP.ext HXA
            clear qul qu0 qu1 qu2 qu3 qu4 qu5 qu6 qu7 qvl qv0 qv1 qv2 qv3 qv4 qv5 qv6 qv7 qxl qx0 qx1 qx2 qx3 qx4 qx5 qx6 qx7 qyl qy0 qy1 qy2 qy3 qy4 qy5 qy6 qy7 qol qo0 qo1 qo2 qo3
            obtain ⟨⟨qul, qu0, qu1, qu2, qu3⟩, qu4, qu5, qu6, qu7⟩ := HPA.2.1
            obtain ⟨⟨qvl, qv0, qv1, qv2, qv3⟩, qv4, qv5, qv6, qv7⟩ := HPA.2.2.1
            obtain ⟨⟨qxl, qx0, qx1, qx2, qx3⟩, qx4, qx5, qx6, qx7⟩ := HPA.2.2.2.1
            obtain ⟨⟨qyl, qy0, qy1, qy2, qy3⟩, qy4, qy5, qy6, qy7⟩ := HPA.2.2.2.2.1
            obtain ⟨qol, qo0, qo1, qo2, qo3⟩ := HPA.2.2.2.2.2.1
            have HPB := HPA.set3 (r0 := p0) (r1 := p1) (r2 := p2) (r3 := p3) HO N3
            go_wp2_with fail
            refine (refhalved_any _ _ _ _ HI.out.2.2.1 HI.out.2.2.2.2.1 _).mono ?_
            rintro e wB ⟨r0, r1, r2, r3, rfl, HH2, HXB⟩
            have HPC := HPB.ext HXB
            clear qul qu0 qu1 qu2 qu3 qu4 qu5 qu6 qu7 qvl qv0 qv1 qv2 qv3 qv4 qv5 qv6 qv7 qxl qx0 qx1 qx2 qx3 qx4 qx5 qx6 qx7 qyl qy0 qy1 qy2 qy3 qy4 qy5 qy6 qy7 qol qo0 qo1 qo2 qo3
            obtain ⟨⟨qul, qu0, qu1, qu2, qu3⟩, qu4, qu5, qu6, qu7⟩ := HPC.2.1
            obtain ⟨⟨qvl, qv0, qv1, qv2, qv3⟩, qv4, qv5, qv6, qv7⟩ := HPC.2.2.1
            obtain ⟨⟨qxl, qx0, qx1, qx2, qx3⟩, qx4, qx5, qx6, qx7⟩ := HPC.2.2.2.1
            obtain ⟨⟨qyl, qy0, qy1, qy2, qy3⟩, qy4, qy5, qy6, qy7⟩ := HPC.2.2.2.2.1
            obtain ⟨qol, qo0, qo1, qo2, qo3⟩ := HPC.2.2.2.2.2.1
            go_wp2
            go_roundw
            case rel => exact ⟨k + 1, p0, p1, p2, p3, v0, v1, v2, v3, r0, r1, r2, r3, y0, y1, y2, y3, by go_num, HPC.set5 HO N5, invS_a HI.out HEv.out HH1.out HH2.out⟩
            case measure => simp [intOf]; omega
          · have HEv : Hid (¬ u0 % 2 = 0) := eu
            have htu : (u0.tmod 2 == 0) = false := by rw [Int.tmod_eq_emod_of_nonneg HI.out.1.1.1]; simpa using eu
            clear eu
            by_cases ev : v0 % 2 = 0
            · have HEw : Hid (v0 % 2 = 0) := ev
              have htv : v0.tmod 2 = 0 := by rw [Int.tmod_eq_emod_of_nonneg HI.out.2.1.1.1]; exact ev
              clear ev
              go_wp2_with fail
              refine (refhalf_any _ _ _ _ _ HI.out.2.1 _).mono ?_
              rintro e wA ⟨p0, p1, p2, p3, rfl, HH1, HXA⟩
              have HPA := HP.ext HXA
              clear qul qu0 qu1 qu2 qu3 qu4 qu5 qu6 qu7 qvl qv0 qv1 qv2 qv3 qv4 qv5 qv6 qv7 qxl qx0 qx1 qx2 qx3 qx4 qx5 qx6 qx7 qyl qy0 qy1 qy2 qy3 qy4 qy5 qy6 qy7 qol qo0 qo1 qo2 qo3
              obtain ⟨⟨qul, qu0, qu1, qu2, qu3⟩, qu4, qu5, qu6, qu7⟩ := HPA.2.1
              obtain ⟨⟨qvl, qv0, qv1, qv2, qv3⟩, qv4, qv5, qv6, qv7⟩ := HPA.2.2.1
              obtain ⟨⟨qxl, qx0, qx1, qx2, qx3⟩, qx4, qx5, qx6, qx7⟩ := HPA.2.2.2.1
              obtain ⟨⟨qyl, qy0, qy1, qy2, qy3⟩, qy4, qy5, qy6, qy7⟩ := HPA.2.2.2.2.1
              obtain ⟨qol, qo0, qo1, qo2, qo3⟩ := HPA.2.2.2.2.2.1
              have HPB := HPA.set4 (r0 := p0) (r1 := p1) (r2 := p2) (r3 := p3) HO N4
              go_wp2_with fail
              refine (refhalved_any _ _ _ _ HI.out.2.2.2.1 HI.out.2.2.2.2.2.1 _).mono ?_
              rintro e wB ⟨r0, r1, r2, r3, rfl, HH2, HXB⟩
              have HPC := HPB.ext HXB
              clear qul qu0 qu1 qu2 qu3 qu4 qu5 qu6 qu7 qvl qv0 qv1 qv2 qv3 qv4 qv5 qv6 qv7 qxl qx0 qx1 qx2 qx3 qx4 qx5 qx6 qx7 qyl qy0 qy1 qy2 qy3 qy4 qy5 qy6 qy7 qol qo0 qo1 qo2 qo3
              obtain ⟨⟨qul, qu0, qu1, qu2, qu3⟩, qu4, qu5, qu6, qu7⟩ := HPC.2.1
              obtain ⟨⟨qvl, qv0, qv1, qv2, qv3⟩, qv4, qv5, qv6, qv7⟩ := HPC.2.2.1
              obtain ⟨⟨qxl, qx0, qx1, qx2, qx3⟩, qx4, qx5, qx6, qx7⟩ := HPC.2.2.2.1
              obtain ⟨⟨qyl, qy0, qy1, qy2, qy3⟩, qy4, qy5, qy6, qy7⟩ := HPC.2.2.2.2.1
              obtain ⟨qol, qo0, qo1, qo2, qo3⟩ := HPC.2.2.2.2.2.1
              go_wp2
              go_roundw
              case rel => exact ⟨k + 1, u0, u1, u2, u3, p0, p1, p2, p3, x0, x1, x2, x3, r0, r1, r2, r3, by go_num, HPC.set6 HO N6, (invS_a HI.out.swap HEw.out HH1.out HH2.out).swap⟩
              case measure => simp [intOf]; omega
            · have HEw : Hid (¬ v0 % 2 = 0) := ev
              have htv : (v0.tmod 2 == 0) = false := by rw [Int.tmod_eq_emod_of_nonneg HI.out.2.1.1.1]; simpa using ev
              clear ev
              go_wp2_with fail
              refine (refCmp_any _ _ _ _ _ _ _ _ HI.out.1 HI.out.2.1 _).mono ?_
              rintro e wD ⟨n, rfl, HC, HXD⟩
              have HPD := HP.ext HXD
              clear qul qu0 qu1 qu2 qu3 qu4 qu5 qu6 qu7 qvl qv0 qv1 qv2 qv3 qv4 qv5 qv6 qv7 qxl qx0 qx1 qx2 qx3 qx4 qx5 qx6 qx7 qyl qy0 qy1 qy2 qy3 qy4 qy5 qy6 qy7 qol qo0 qo1 qo2 qo3
              clear HXD HP
              obtain ⟨⟨qul, qu0, qu1, qu2, qu3⟩, qu4, qu5, qu6, qu7⟩ := HPD.2.1
              obtain ⟨⟨qvl, qv0, qv1, qv2, qv3⟩, qv4, qv5, qv6, qv7⟩ := HPD.2.2.1
              obtain ⟨⟨qxl, qx0, qx1, qx2, qx3⟩, qx4, qx5, qx6, qx7⟩ := HPD.2.2.2.1
              obtain ⟨⟨qyl, qy0, qy1, qy2, qy3⟩, qy4, qy5, qy6, qy7⟩ := HPD.2.2.2.2.1
              obtain ⟨qol, qo0, qo1, qo2, qo3⟩ := HPD.2.2.2.2.2.1
              by_cases hle : val v0 v1 v2 v3 ≤ val u0 u1 u2 u3
              · have HLe : Hid (val v0 v1 v2 v3 ≤ val u0 u1 u2 u3) := hle
                have hn : decide (0 ≤ n) = true := by have := HC.out; unfold CmpP at this; simp; omega
                have hn0 : 0 ≤ n := by simpa using hn
                clear hle
                go_wp2_with fail
                refine (refSub_raw _ _ _ _ _ _ _ _ HI.out.1 HI.out.2.1 _).mono ?_
                rintro e wA ⟨p0, p1, p2, p3, c, rfl, HH1, HXA⟩
                have HPA := HPD.ext HXA
                clear qul qu0 qu1 qu2 qu3 qu4 qu5 qu6 qu7 qvl qv0 qv1 qv2 qv3 qv4 qv5 qv6 qv7 qxl qx0 qx1 qx2 qx3 qx4 qx5 qx6 qx7 qyl qy0 qy1 qy2 qy3 qy4 qy5 qy6 qy7 qol qo0 qo1 qo2 qo3
                obtain ⟨⟨qul, qu0, qu1, qu2, qu3⟩, qu4, qu5, qu6, qu7⟩ := HPA.2.1
                obtain ⟨⟨qvl, qv0, qv1, qv2, qv3⟩, qv4, qv5, qv6, qv7⟩ := HPA.2.2.1
                obtain ⟨⟨qxl, qx0, qx1, qx2, qx3⟩, qx4, qx5, qx6, qx7⟩ := HPA.2.2.2.1
                obtain ⟨⟨qyl, qy0, qy1, qy2, qy3⟩, qy4, qy5, qy6, qy7⟩ := HPA.2.2.2.2.1
                obtain ⟨qol, qo0, qo1, qo2, qo3⟩ := HPA.2.2.2.2.2.1
                have HPB := HPA.set3 (r0 := p0) (r1 := p1) (r2 := p2) (r3 := p3) HO N3
                go_wp2_with fail
                refine (refSSub_any _ _ _ _ _ _ _ _ HI.out.2.2.1 HI.out.2.2.2.1 _).mono ?_
                rintro e wB ⟨r0, r1, r2, r3, rfl, HH2, HXB⟩
                have HPC := HPB.ext HXB
                clear qul qu0 qu1 qu2 qu3 qu4 qu5 qu6 qu7 qvl qv0 qv1 qv2 qv3 qv4 qv5 qv6 qv7 qxl qx0 qx1 qx2 qx3 qx4 qx5 qx6 qx7 qyl qy0 qy1 qy2 qy3 qy4 qy5 qy6 qy7 qol qo0 qo1 qo2 qo3
                obtain ⟨⟨qul, qu0, qu1, qu2, qu3⟩, qu4, qu5, qu6, qu7⟩ := HPC.2.1
                obtain ⟨⟨qvl, qv0, qv1, qv2, qv3⟩, qv4, qv5, qv6, qv7⟩ := HPC.2.2.1
                obtain ⟨⟨qxl, qx0, qx1, qx2, qx3⟩, qx4, qx5, qx6, qx7⟩ := HPC.2.2.2.1
                obtain ⟨⟨qyl, qy0, qy1, qy2, qy3⟩, qy4, qy5, qy6, qy7⟩ := HPC.2.2.2.2.1
                obtain ⟨qol, qo0, qo1, qo2, qo3⟩ := HPC.2.2.2.2.2.1
                go_wp2
                go_roundw
                case rel => exact ⟨k + 1, p0, p1, p2, p3, v0, v1, v2, v3, r0, r1, r2, r3, y0, y1, y2, y3, by go_num, HPC.set5 HO N5, invS_c HI.out HEv.out HEw.out HLe.out hu HH1.out HH2.out⟩
                case measure => simp [intOf]; omega
              · have HLe : Hid (val u0 u1 u2 u3 ≤ val v0 v1 v2 v3) := (by omega : val u0 u1 u2 u3 ≤ val v0 v1 v2 v3)
                have hn : decide (0 ≤ n) = false := by have := HC.out; unfold CmpP at this; simp; omega
                have hn0 : ¬ 0 ≤ n := by simpa using hn
                clear hle
                go_wp2_with fail
                refine (refSub_raw _ _ _ _ _ _ _ _ HI.out.2.1 HI.out.1 _).mono ?_
                rintro e wA ⟨p0, p1, p2, p3, c, rfl, HH1, HXA⟩
                have HPA := HPD.ext HXA
                clear qul qu0 qu1 qu2 qu3 qu4 qu5 qu6 qu7 qvl qv0 qv1 qv2 qv3 qv4 qv5 qv6 qv7 qxl qx0 qx1 qx2 qx3 qx4 qx5 qx6 qx7 qyl qy0 qy1 qy2 qy3 qy4 qy5 qy6 qy7 qol qo0 qo1 qo2 qo3
                obtain ⟨⟨qul, qu0, qu1, qu2, qu3⟩, qu4, qu5, qu6, qu7⟩ := HPA.2.1
                obtain ⟨⟨qvl, qv0, qv1, qv2, qv3⟩, qv4, qv5, qv6, qv7⟩ := HPA.2.2.1
                obtain ⟨⟨qxl, qx0, qx1, qx2, qx3⟩, qx4, qx5, qx6, qx7⟩ := HPA.2.2.2.1
                obtain ⟨⟨qyl, qy0, qy1, qy2, qy3⟩, qy4, qy5, qy6, qy7⟩ := HPA.2.2.2.2.1
                obtain ⟨qol, qo0, qo1, qo2, qo3⟩ := HPA.2.2.2.2.2.1
                have HPB := HPA.set4 (r0 := p0) (r1 := p1) (r2 := p2) (r3 := p3) HO N4
                go_wp2_with fail
                refine (refSSub_any _ _ _ _ _ _ _ _ HI.out.2.2.2.1 HI.out.2.2.1 _).mono ?_
                rintro e wB ⟨r0, r1, r2, r3, rfl, HH2, HXB⟩
                have HPC := HPB.ext HXB
                clear qul qu0 qu1 qu2 qu3 qu4 qu5 qu6 qu7 qvl qv0 qv1 qv2 qv3 qv4 qv5 qv6 qv7 qxl qx0 qx1 qx2 qx3 qx4 qx5 qx6 qx7 qyl qy0 qy1 qy2 qy3 qy4 qy5 qy6 qy7 qol qo0 qo1 qo2 qo3
                obtain ⟨⟨qul, qu0, qu1, qu2, qu3⟩, qu4, qu5, qu6, qu7⟩ := HPC.2.1
                obtain ⟨⟨qvl, qv0, qv1, qv2, qv3⟩, qv4, qv5, qv6, qv7⟩ := HPC.2.2.1
                obtain ⟨⟨qxl, qx0, qx1, qx2, qx3⟩, qx4, qx5, qx6, qx7⟩ := HPC.2.2.2.1
                obtain ⟨⟨qyl, qy0, qy1, qy2, qy3⟩, qy4, qy5, qy6, qy7⟩ := HPC.2.2.2.2.1
                obtain ⟨qol, qo0, qo1, qo2, qo3⟩ := HPC.2.2.2.2.2.1
                go_wp2
                go_roundw
                case rel => exact ⟨k + 1, u0, u1, u2, u3, p0, p1, p2, p3, x0, x1, x2, x3, r0, r1, r2, r3, by go_num, HPC.set6 HO N6, (invS_c HI.out.swap HEw.out HEv.out HLe.out hv HH1.out HH2.out).swap⟩
                case measure => simp [intOf]; omega
end Go.Proofs.YtnaiccfdbapdpaaDoor
