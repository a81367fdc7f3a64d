/-
  ScalarRing, walked: it answers true; nothing old is turned.
-/
import Derived.Test.YtdjdociecokilaaDoorSFn
import Derived.Deep.DeepCutAuto
namespace Go.Proofs.YtdjdociecokilaaDoor
open Go.RowKit
theorem keep3r {W0 wx : World} {b c d : Nat} {x0 x1 x2 x3 y0 y1 y2 y3 z0 z1 z2 z3 : Int} (hE : Ext W0 wx) (hb : Row W0 b x0 x1 x2 x3) (hc : Row W0 c y0 y1 y2 y3) (hd : Row W0 d z0 z1 z2 z3) : Ext W0 wx ∧ wx.cell? ⟨b, 0, none⟩ = some (.int .u64 x0) ∧ wx.cell? ⟨b, 1, none⟩ = some (.int .u64 x1) ∧ wx.cell? ⟨b, 2, none⟩ = some (.int .u64 x2) ∧ wx.cell? ⟨b, 3, none⟩ = some (.int .u64 x3) ∧ wx.cell? ⟨c, 0, none⟩ = some (.int .u64 y0) ∧ wx.cell? ⟨c, 1, none⟩ = some (.int .u64 y1) ∧ wx.cell? ⟨c, 2, none⟩ = some (.int .u64 y2) ∧ wx.cell? ⟨c, 3, none⟩ = some (.int .u64 y3) ∧ wx.cell? ⟨d, 0, none⟩ = some (.int .u64 z0) ∧ wx.cell? ⟨d, 1, none⟩ = some (.int .u64 z1) ∧ wx.cell? ⟨d, 2, none⟩ = some (.int .u64 z2) ∧ wx.cell? ⟨d, 3, none⟩ = some (.int .u64 z3) :=
  ⟨hE, later hE hb.2.1, later hE hb.2.2.1, later hE hb.2.2.2.1, later hE hb.2.2.2.2, later hE hc.2.1, later hE hc.2.2.1, later hE hc.2.2.2.1, later hE hc.2.2.2.2, later hE hd.2.1, later hE hd.2.2.1, later hE hd.2.2.2.1, later hE hd.2.2.2.2⟩
theorem keep7r {W0 wx : World} {b c d e f g h : Nat} {x0 x1 x2 x3 y0 y1 y2 y3 z0 z1 z2 z3 u0 u1 u2 u3 v0 v1 v2 v3 s0 s1 s2 s3 t0 t1 t2 t3 : Int} (hE : Ext W0 wx) (hb : Row W0 b x0 x1 x2 x3) (hc : Row W0 c y0 y1 y2 y3) (hd : Row W0 d z0 z1 z2 z3) (he : Row W0 e u0 u1 u2 u3) (hf : Row W0 f v0 v1 v2 v3) (hg : Row W0 g s0 s1 s2 s3) (hh : Row W0 h t0 t1 t2 t3) : Ext W0 wx ∧ wx.cell? ⟨b, 0, none⟩ = some (.int .u64 x0) ∧ wx.cell? ⟨b, 1, none⟩ = some (.int .u64 x1) ∧ wx.cell? ⟨b, 2, none⟩ = some (.int .u64 x2) ∧ wx.cell? ⟨b, 3, none⟩ = some (.int .u64 x3) ∧ wx.cell? ⟨c, 0, none⟩ = some (.int .u64 y0) ∧ wx.cell? ⟨c, 1, none⟩ = some (.int .u64 y1) ∧ wx.cell? ⟨c, 2, none⟩ = some (.int .u64 y2) ∧ wx.cell? ⟨c, 3, none⟩ = some (.int .u64 y3) ∧ wx.cell? ⟨d, 0, none⟩ = some (.int .u64 z0) ∧ wx.cell? ⟨d, 1, none⟩ = some (.int .u64 z1) ∧ wx.cell? ⟨d, 2, none⟩ = some (.int .u64 z2) ∧ wx.cell? ⟨d, 3, none⟩ = some (.int .u64 z3) ∧ wx.cell? ⟨e, 0, none⟩ = some (.int .u64 u0) ∧ wx.cell? ⟨e, 1, none⟩ = some (.int .u64 u1) ∧ wx.cell? ⟨e, 2, none⟩ = some (.int .u64 u2) ∧ wx.cell? ⟨e, 3, none⟩ = some (.int .u64 u3) ∧ wx.cell? ⟨f, 0, none⟩ = some (.int .u64 v0) ∧ wx.cell? ⟨f, 1, none⟩ = some (.int .u64 v1) ∧ wx.cell? ⟨f, 2, none⟩ = some (.int .u64 v2) ∧ wx.cell? ⟨f, 3, none⟩ = some (.int .u64 v3) ∧ wx.cell? ⟨g, 0, none⟩ = some (.int .u64 s0) ∧ wx.cell? ⟨g, 1, none⟩ = some (.int .u64 s1) ∧ wx.cell? ⟨g, 2, none⟩ = some (.int .u64 s2) ∧ wx.cell? ⟨g, 3, none⟩ = some (.int .u64 s3) ∧ wx.cell? ⟨h, 0, none⟩ = some (.int .u64 t0) ∧ wx.cell? ⟨h, 1, none⟩ = some (.int .u64 t1) ∧ wx.cell? ⟨h, 2, none⟩ = some (.int .u64 t2) ∧ wx.cell? ⟨h, 3, none⟩ = some (.int .u64 t3) :=
  ⟨hE, later hE hb.2.1, later hE hb.2.2.1, later hE hb.2.2.2.1, later hE hb.2.2.2.2, later hE hc.2.1, later hE hc.2.2.1, later hE hc.2.2.2.1, later hE hc.2.2.2.2, later hE hd.2.1, later hE hd.2.2.1, later hE hd.2.2.2.1, later hE hd.2.2.2.2, later hE he.2.1, later hE he.2.2.1, later hE he.2.2.2.1, later hE he.2.2.2.2, later hE hf.2.1, later hE hf.2.2.1, later hE hf.2.2.2.1, later hE hf.2.2.2.2, later hE hg.2.1, later hE hg.2.2.1, later hE hg.2.2.2.1, later hE hg.2.2.2.2, later hE hh.2.1, later hE hh.2.2.1, later hE hh.2.2.2.1, later hE hh.2.2.2.2⟩
theorem ring_dist {A B C u0 u1 u2 u3 v0 v1 v2 v3 : Int} (hu : QMod (A * B) u0 u1 u2 u3) (hv : QMod (A * C) v0 v1 v2 v3) : (val u0 u1 u2 u3 + val v0 v1 v2 v3) % FQ = (A * (B + C)) % FQ := by
  rw [hu.2, hv.2, ← Int.add_emod, Int.mul_add]
theorem ring_back {A B s0 s1 s2 s3 : Int} (hs : QMod (A + B) s0 s1 s2 s3) : (val s0 s1 s2 s3 - B) % FQ = A % FQ := by
  rw [Int.sub_emod, hs.2, Int.emod_emod_of_dvd _ (Int.dvd_refl _), ← Int.sub_emod]
  congr 1
  omega
attribute [local go_sem] run_eq4
set_option maxHeartbeats 16000000 in
theorem ring_any (a0 a1 a2 a3 b0 b1 b2 b3 c0 c1 c2 c3 : Int) (ha : Lim4 a0 a1 a2 a3) (hb : Lim4 b0 b1 b2 b3) (hc : Lim4 c0 c1 c2 c3) (w : World) (hG : Gl w) :
    Calls Tryd.prog 6 #[.agg #[.int .u64 a0, .int .u64 a1, .int .u64 a2, .int .u64 a3], .agg #[.int .u64 b0, .int .u64 b1, .int .u64 b2, .int .u64 b3], .agg #[.int .u64 c0, .int .u64 c1, .int .u64 c2, .int .u64 c3]] w fun e w' => e = .returned (.bool true) ∧ Ext w w' := by
  have RT := Row.two w a0 a1 a2 a3 b0 b1 b2 b3
  have Ra := RT.1.ext ((Ext.refl _).alloc (.cells #[.int .u64 c0, .int .u64 c1, .int .u64 c2, .int .u64 c3] 24))
  have Rb := RT.2.ext ((Ext.refl _).alloc (.cells #[.int .u64 c0, .int .u64 c1, .int .u64 c2, .int .u64 c3] 24))
  have Rc := Row.new ((w.alloc (.cells #[.int .u64 a0, .int .u64 a1, .int .u64 a2, .int .u64 a3] 24)).alloc (.cells #[.int .u64 b0, .int .u64 b1, .int .u64 b2, .int .u64 b3] 24)) c0 c1 c2 c3
  rw [show ((w.alloc (.cells #[.int .u64 a0, .int .u64 a1, .int .u64 a2, .int .u64 a3] 24)).alloc (.cells #[.int .u64 b0, .int .u64 b1, .int .u64 b2, .int .u64 b3] 24)).heap.size = w.heap.size + 1 + 1 from by simp] at Rc
  have HE0 : Hid (Ext w (((w.alloc (.cells #[.int .u64 a0, .int .u64 a1, .int .u64 a2, .int .u64 a3] 24)).alloc (.cells #[.int .u64 b0, .int .u64 b1, .int .u64 b2, .int .u64 b3] 24)).alloc (.cells #[.int .u64 c0, .int .u64 c1, .int .u64 c2, .int .u64 c3] 24))) := (((Ext.refl _).alloc _).alloc _).alloc _
  have G0 := hG.ext HE0.out
  clear RT hG
  have zL : Lim4 0 0 0 0 := ⟨lim_of _ rfl, lim_of _ rfl, lim_of _ rfl, lim_of _ rfl⟩
  obtain ⟨p0, p1, p2, p3, HP⟩ := qmod_ex (val b0 b1 b2 b3 + val c0 c1 c2 c3)
  obtain ⟨x0, x1, x2, x3, HX0⟩ := qmod_ex (val a0 a1 a2 a3 * (val b0 b1 b2 b3 + val c0 c1 c2 c3))
  obtain ⟨u0, u1, u2, u3, HU⟩ := qmod_ex (val a0 a1 a2 a3 * val b0 b1 b2 b3)
  obtain ⟨v0, v1, v2, v3, HV⟩ := qmod_ex (val a0 a1 a2 a3 * val c0 c1 c2 c3)
  obtain ⟨z0, z1, z2, z3, HZ⟩ := qmod_ex (val a0 a1 a2 a3 * val b0 b1 b2 b3 * val c0 c1 c2 c3)
  obtain ⟨t0, t1, t2, t3, HT⟩ := qmod_ex (val b0 b1 b2 b3 * val c0 c1 c2 c3)
  obtain ⟨s0, s1, s2, s3, HS⟩ := qmod_ex (val a0 a1 a2 a3 + val b0 b1 b2 b3)
  obtain ⟨l0, l1, l2, l3, HL⟩ := qmod_ex (val a0 a1 a2 a3)
  have Mp : Hid (∀ wx, Gl wx → Calls Tryd.prog 9 #[.agg #[.int .u64 b0, .int .u64 b1, .int .u64 b2, .int .u64 b3], .agg #[.int .u64 c0, .int .u64 c1, .int .u64 c2, .int .u64 c3]] wx fun e w' => e = .returned (.agg #[.int .u64 p0, .int .u64 p1, .int .u64 p2, .int .u64 p3]) ∧ Ext wx w') := fun wx hg => sadd_fn hb hc HP.out rfl wx hg
  have Mx : Hid (∀ wx, Gl wx → Calls Tryd.prog 18 #[.agg #[.int .u64 a0, .int .u64 a1, .int .u64 a2, .int .u64 a3], .agg #[.int .u64 p0, .int .u64 p1, .int .u64 p2, .int .u64 p3]] wx fun e w' => e = .returned (.agg #[.int .u64 x0, .int .u64 x1, .int .u64 x2, .int .u64 x3]) ∧ Ext wx w') := fun wx hg => smul_fn ha HP.out.1 HX0.out (by rw [HP.out.2, mul_modq_mod]) wx hg
  have Mu : Hid (∀ wx, Gl wx → Calls Tryd.prog 18 #[.agg #[.int .u64 a0, .int .u64 a1, .int .u64 a2, .int .u64 a3], .agg #[.int .u64 b0, .int .u64 b1, .int .u64 b2, .int .u64 b3]] wx fun e w' => e = .returned (.agg #[.int .u64 u0, .int .u64 u1, .int .u64 u2, .int .u64 u3]) ∧ Ext wx w') := fun wx hg => smul_fn ha hb HU.out rfl wx hg
  have Mv : Hid (∀ wx, Gl wx → Calls Tryd.prog 18 #[.agg #[.int .u64 a0, .int .u64 a1, .int .u64 a2, .int .u64 a3], .agg #[.int .u64 c0, .int .u64 c1, .int .u64 c2, .int .u64 c3]] wx fun e w' => e = .returned (.agg #[.int .u64 v0, .int .u64 v1, .int .u64 v2, .int .u64 v3]) ∧ Ext wx w') := fun wx hg => smul_fn ha hc HV.out rfl wx hg
  have My : Hid (∀ wx, Gl wx → Calls Tryd.prog 9 #[.agg #[.int .u64 u0, .int .u64 u1, .int .u64 u2, .int .u64 u3], .agg #[.int .u64 v0, .int .u64 v1, .int .u64 v2, .int .u64 v3]] wx fun e w' => e = .returned (.agg #[.int .u64 x0, .int .u64 x1, .int .u64 x2, .int .u64 x3]) ∧ Ext wx w') := fun wx hg => sadd_fn HU.out.1 HV.out.1 HX0.out (ring_dist HU.out HV.out) wx hg
  have Mz : Hid (∀ wx, Gl wx → Calls Tryd.prog 18 #[.agg #[.int .u64 u0, .int .u64 u1, .int .u64 u2, .int .u64 u3], .agg #[.int .u64 c0, .int .u64 c1, .int .u64 c2, .int .u64 c3]] wx fun e w' => e = .returned (.agg #[.int .u64 z0, .int .u64 z1, .int .u64 z2, .int .u64 z3]) ∧ Ext wx w') := fun wx hg => smul_fn HU.out.1 hc HZ.out (by rw [HU.out.2, modq_mul_mod]) wx hg
  have Mt : Hid (∀ wx, Gl wx → Calls Tryd.prog 18 #[.agg #[.int .u64 b0, .int .u64 b1, .int .u64 b2, .int .u64 b3], .agg #[.int .u64 c0, .int .u64 c1, .int .u64 c2, .int .u64 c3]] wx fun e w' => e = .returned (.agg #[.int .u64 t0, .int .u64 t1, .int .u64 t2, .int .u64 t3]) ∧ Ext wx w') := fun wx hg => smul_fn hb hc HT.out rfl wx hg
  have Mw : Hid (∀ wx, Gl wx → Calls Tryd.prog 18 #[.agg #[.int .u64 a0, .int .u64 a1, .int .u64 a2, .int .u64 a3], .agg #[.int .u64 t0, .int .u64 t1, .int .u64 t2, .int .u64 t3]] wx fun e w' => e = .returned (.agg #[.int .u64 z0, .int .u64 z1, .int .u64 z2, .int .u64 z3]) ∧ Ext wx w') := fun wx hg => smul_fn ha HT.out.1 HZ.out (by rw [HT.out.2, mul_modq_mod, Int.mul_assoc]) wx hg
  have Ms : Hid (∀ wx, Gl wx → Calls Tryd.prog 9 #[.agg #[.int .u64 a0, .int .u64 a1, .int .u64 a2, .int .u64 a3], .agg #[.int .u64 b0, .int .u64 b1, .int .u64 b2, .int .u64 b3]] wx fun e w' => e = .returned (.agg #[.int .u64 s0, .int .u64 s1, .int .u64 s2, .int .u64 s3]) ∧ Ext wx w') := fun wx hg => sadd_fn ha hb HS.out rfl wx hg
  have Ml : Hid (∀ wx, Gl wx → Calls Tryd.prog 11 #[.agg #[.int .u64 s0, .int .u64 s1, .int .u64 s2, .int .u64 s3], .agg #[.int .u64 b0, .int .u64 b1, .int .u64 b2, .int .u64 b3]] wx fun e w' => e = .returned (.agg #[.int .u64 l0, .int .u64 l1, .int .u64 l2, .int .u64 l3]) ∧ Ext wx w') := fun wx hg => ssub_fn HS.out.1 hb HL.out (ring_back HS.out) wx hg
  have Mo : Hid (∀ wx, Gl wx → Calls Tryd.prog 9 #[.agg #[.int .u64 a0, .int .u64 a1, .int .u64 a2, .int .u64 a3], .agg #[.int .u64 0, .int .u64 0, .int .u64 0, .int .u64 0]] wx fun e w' => e = .returned (.agg #[.int .u64 l0, .int .u64 l1, .int .u64 l2, .int .u64 l3]) ∧ Ext wx w') := fun wx hg => sadd_fn ha zL HL.out (by rw [show val 0 0 0 0 = 0 from by decide, Int.add_zero]) wx hg
  have Mr : Hid (∀ wx, Gl wx → Calls Tryd.prog 9 #[.agg #[.int .u64 b0, .int .u64 b1, .int .u64 b2, .int .u64 b3], .agg #[.int .u64 a0, .int .u64 a1, .int .u64 a2, .int .u64 a3]] wx fun e w' => e = .returned (.agg #[.int .u64 s0, .int .u64 s1, .int .u64 s2, .int .u64 s3]) ∧ Ext wx w') := fun wx hg => sadd_fn hb ha HS.out (by rw [Int.add_comm]) wx hg
  have Nx : Hid (∀ wx, Gl wx → Calls Tryd.prog 13 #[.agg #[.int .u64 x0, .int .u64 x1, .int .u64 x2, .int .u64 x3]] wx fun e w' => e = .returned (.bool true) ∧ Ext wx w') := fun wx hg => (show decide (val x0 x1 x2 x3 < FQ) = true from by simpa using HX0.out.less) ▸ svalid_any _ _ _ _ HX0.out.1 wx hg
  have Nz : Hid (∀ wx, Gl wx → Calls Tryd.prog 13 #[.agg #[.int .u64 z0, .int .u64 z1, .int .u64 z2, .int .u64 z3]] wx fun e w' => e = .returned (.bool true) ∧ Ext wx w') := fun wx hg => (show decide (val z0 z1 z2 z3 < FQ) = true from by simpa using HZ.out.less) ▸ svalid_any _ _ _ _ HZ.out.1 wx hg
  have Nl : Hid (∀ wx, Gl wx → Calls Tryd.prog 13 #[.agg #[.int .u64 l0, .int .u64 l1, .int .u64 l2, .int .u64 l3]] wx fun e w' => e = .returned (.bool true) ∧ Ext wx w') := fun wx hg => (show decide (val l0 l1 l2 l3 < FQ) = true from by simpa using HL.out.less) ▸ svalid_any _ _ _ _ HL.out.1 wx hg
  have qx := eq4_self x0 x1 x2 x3
  have qz := eq4_self z0 z1 z2 z3
  have ql := eq4_self l0 l1 l2 l3
  have qs := eq4_self s0 s1 s2 s3
  clear HP HX0 HU HV HZ HT HS HL ha hb hc zL
  go_enter Tryd.func6, Tryd.ntmps6
  go_wp2_with fail
  generalize (((w.alloc (.cells #[.int .u64 a0, .int .u64 a1, .int .u64 a2, .int .u64 a3] 24)).alloc (.cells #[.int .u64 b0, .int .u64 b1, .int .u64 b2, .int .u64 b3] 24)).alloc (.cells #[.int .u64 c0, .int .u64 c1, .int .u64 c2, .int .u64 c3] 24)) = W0 at *
  generalize w.heap.size + 1 + 1 = bc at *
  generalize w.heap.size + 1 = bb at *
  generalize w.heap.size = ba at *
  go_cut [7] (fun sk wx => ∃ bk : Nat, sk = .pointer (some ⟨bk, 0, none⟩) ∧ Row wx bk x0 x1 x2 x3 ∧ Ext W0 wx)
  case first =>
    have hl0 : W0.heap.size ≤ W0.heap.size := Nat.le_refl _
    have hl1 : W0.heap.size ≤ W0.heap.size + 1 := Nat.le_succ _
    go_region_held3 (fun wx : World => Ext W0 wx ∧ wx.cell? ⟨ba, 0, none⟩ = some (.int .u64 a0) ∧ wx.cell? ⟨ba, 1, none⟩ = some (.int .u64 a1) ∧ wx.cell? ⟨ba, 2, none⟩ = some (.int .u64 a2) ∧ wx.cell? ⟨ba, 3, none⟩ = some (.int .u64 a3) ∧ wx.cell? ⟨bb, 0, none⟩ = some (.int .u64 b0) ∧ wx.cell? ⟨bb, 1, none⟩ = some (.int .u64 b1) ∧ wx.cell? ⟨bb, 2, none⟩ = some (.int .u64 b2) ∧ wx.cell? ⟨bb, 3, none⟩ = some (.int .u64 b3) ∧ wx.cell? ⟨bc, 0, none⟩ = some (.int .u64 c0) ∧ wx.cell? ⟨bc, 1, none⟩ = some (.int .u64 c1) ∧ wx.cell? ⟨bc, 2, none⟩ = some (.int .u64 c2) ∧ wx.cell? ⟨bc, 3, none⟩ = some (.int .u64 c3)) ((refine keep3r ?_ Ra Rb Rc; simp (maxDischargeDepth := 30) only [extAlloc, extDrew, Ext.st, Ext.refl, *])) (first | (go_at_call 9; with_reducible refine (Mp.out _ (G0.ext (by simp only [*]))).mono ?_; rintro e wy ⟨rfl, HX⟩; have hEy : Ext W0 wy := (by refine Ext.trans ?_ HX; simp only [*]); have hz0 : W0.heap.size ≤ wy.heap.size := hEy.size; have hz1 : W0.heap.size ≤ wy.heap.size + 1 := Nat.le_succ_of_le hz0; have htr : ∀ b, b < _ → b < wy.heap.size := (fun b h => Nat.lt_of_lt_of_le h HX.size); have hsz := HX.size; (try simp at hsz); (try have hs1 := Nat.lt_of_succ_le hsz); (try have hs2 := Nat.lt_of_succ_lt (Nat.lt_of_succ_le hsz)); obtain ⟨hcc, hff⟩ := HX.cells; (try simp at hcc); (try simp at hff)) | (go_at_call 18; with_reducible refine (Mx.out _ (G0.ext (by simp only [*]))).mono ?_; rintro e wy ⟨rfl, HX⟩; have hEy : Ext W0 wy := (by refine Ext.trans ?_ HX; simp only [*]); have hz0 : W0.heap.size ≤ wy.heap.size := hEy.size; have hz1 : W0.heap.size ≤ wy.heap.size + 1 := Nat.le_succ_of_le hz0; have htr : ∀ b, b < _ → b < wy.heap.size := (fun b h => Nat.lt_of_lt_of_le h HX.size); have hsz := HX.size; (try simp at hsz); (try have hs1 := Nat.lt_of_succ_le hsz); (try have hs2 := Nat.lt_of_succ_lt (Nat.lt_of_succ_le hsz)); obtain ⟨hcc, hff⟩ := HX.cells; (try simp at hcc); (try simp at hff)))
    all_goals
      go_wp2
      go_meet
      case rel => exact ⟨_, rfl, ⟨by simp [*], (by first | (go_simp; done) | (go_simp; exact World.cell?_setCell_same' _ _ _ (by go_simp))), (by first | (go_simp; done) | (go_simp; exact World.cell?_setCell_same' _ _ _ (by go_simp))), (by first | (go_simp; done) | (go_simp; exact World.cell?_setCell_same' _ _ _ (by go_simp))), (by first | (go_simp; done) | (go_simp; exact World.cell?_setCell_same' _ _ _ (by go_simp)))⟩, by simp only [*]⟩
  case rest =>
    obtain ⟨bx, rfl, Rxn, HXc⟩ := hcut
    replace Ra := Ra.ext HXc
    replace Rb := Rb.ext HXc
    replace Rc := Rc.ext HXc
    replace G0 := G0.ext HXc
    replace HE0 : Hid (Ext w wc) := HE0.out.trans HXc
    clear HXc
    clear W0
    obtain ⟨W0, hW0⟩ : ∃ W0, W0 = wc := ⟨_, rfl⟩
    subst hW0
    have Rx := Rxn
    clear Rxn
    go_wp2_with fail
    go_cut [8] (fun sk wx => ∃ bk : Nat, sk = .pointer (some ⟨bk, 0, none⟩) ∧ Row wx bk x0 x1 x2 x3 ∧ Ext W0 wx)
    case first =>
      have hl0 : W0.heap.size ≤ W0.heap.size := Nat.le_refl _
      have hl1 : W0.heap.size ≤ W0.heap.size + 1 := Nat.le_succ _
      go_region_held3 (fun wx : World => Ext W0 wx ∧ wx.cell? ⟨ba, 0, none⟩ = some (.int .u64 a0) ∧ wx.cell? ⟨ba, 1, none⟩ = some (.int .u64 a1) ∧ wx.cell? ⟨ba, 2, none⟩ = some (.int .u64 a2) ∧ wx.cell? ⟨ba, 3, none⟩ = some (.int .u64 a3) ∧ wx.cell? ⟨bb, 0, none⟩ = some (.int .u64 b0) ∧ wx.cell? ⟨bb, 1, none⟩ = some (.int .u64 b1) ∧ wx.cell? ⟨bb, 2, none⟩ = some (.int .u64 b2) ∧ wx.cell? ⟨bb, 3, none⟩ = some (.int .u64 b3) ∧ wx.cell? ⟨bc, 0, none⟩ = some (.int .u64 c0) ∧ wx.cell? ⟨bc, 1, none⟩ = some (.int .u64 c1) ∧ wx.cell? ⟨bc, 2, none⟩ = some (.int .u64 c2) ∧ wx.cell? ⟨bc, 3, none⟩ = some (.int .u64 c3)) ((refine keep3r ?_ Ra Rb Rc; simp (maxDischargeDepth := 30) only [extAlloc, extDrew, Ext.st, Ext.refl, *])) (first | (go_at_call 18; with_reducible refine (Mu.out _ (G0.ext (by simp only [*]))).mono ?_; rintro e wy ⟨rfl, HX⟩; have hEy : Ext W0 wy := (by refine Ext.trans ?_ HX; simp only [*]); have hz0 : W0.heap.size ≤ wy.heap.size := hEy.size; have hz1 : W0.heap.size ≤ wy.heap.size + 1 := Nat.le_succ_of_le hz0; have htr : ∀ b, b < _ → b < wy.heap.size := (fun b h => Nat.lt_of_lt_of_le h HX.size); have hsz := HX.size; (try simp at hsz); (try have hs1 := Nat.lt_of_succ_le hsz); (try have hs2 := Nat.lt_of_succ_lt (Nat.lt_of_succ_le hsz)); obtain ⟨hcc, hff⟩ := HX.cells; (try simp at hcc); (try simp at hff)) | (go_at_call 18; with_reducible refine (Mv.out _ (G0.ext (by simp only [*]))).mono ?_; rintro e wy ⟨rfl, HX⟩; have hEy : Ext W0 wy := (by refine Ext.trans ?_ HX; simp only [*]); have hz0 : W0.heap.size ≤ wy.heap.size := hEy.size; have hz1 : W0.heap.size ≤ wy.heap.size + 1 := Nat.le_succ_of_le hz0; have htr : ∀ b, b < _ → b < wy.heap.size := (fun b h => Nat.lt_of_lt_of_le h HX.size); have hsz := HX.size; (try simp at hsz); (try have hs1 := Nat.lt_of_succ_le hsz); (try have hs2 := Nat.lt_of_succ_lt (Nat.lt_of_succ_le hsz)); obtain ⟨hcc, hff⟩ := HX.cells; (try simp at hcc); (try simp at hff)) | (go_at_call 9; with_reducible refine (My.out _ (G0.ext (by simp only [*]))).mono ?_; rintro e wy ⟨rfl, HX⟩; have hEy : Ext W0 wy := (by refine Ext.trans ?_ HX; simp only [*]); have hz0 : W0.heap.size ≤ wy.heap.size := hEy.size; have hz1 : W0.heap.size ≤ wy.heap.size + 1 := Nat.le_succ_of_le hz0; have htr : ∀ b, b < _ → b < wy.heap.size := (fun b h => Nat.lt_of_lt_of_le h HX.size); have hsz := HX.size; (try simp at hsz); (try have hs1 := Nat.lt_of_succ_le hsz); (try have hs2 := Nat.lt_of_succ_lt (Nat.lt_of_succ_le hsz)); obtain ⟨hcc, hff⟩ := HX.cells; (try simp at hcc); (try simp at hff)))
      all_goals
        go_wp2
        go_meet
        case rel => exact ⟨_, rfl, ⟨by simp [*], (by first | (go_simp; done) | (go_simp; exact World.cell?_setCell_same' _ _ _ (by go_simp))), (by first | (go_simp; done) | (go_simp; exact World.cell?_setCell_same' _ _ _ (by go_simp))), (by first | (go_simp; done) | (go_simp; exact World.cell?_setCell_same' _ _ _ (by go_simp))), (by first | (go_simp; done) | (go_simp; exact World.cell?_setCell_same' _ _ _ (by go_simp)))⟩, by simp only [*]⟩
    case rest =>
      obtain ⟨bY, rfl, Ryn, HXc⟩ := hcut
      replace Ra := Ra.ext HXc
      replace Rb := Rb.ext HXc
      replace Rc := Rc.ext HXc
      replace Rx := Rx.ext HXc
      replace G0 := G0.ext HXc
      replace HE0 : Hid (Ext w wc) := HE0.out.trans HXc
      clear HXc
      clear W0
      obtain ⟨W0, hW0⟩ : ∃ W0, W0 = wc := ⟨_, rfl⟩
      subst hW0
      have Ry := Ryn
      clear Ryn
      go_wp2_with fail
      go_cut [9] (fun sk wx => ∃ bk : Nat, sk = .pointer (some ⟨bk, 0, none⟩) ∧ Row wx bk z0 z1 z2 z3 ∧ Ext W0 wx)
      case first =>
        have hl0 : W0.heap.size ≤ W0.heap.size := Nat.le_refl _
        have hl1 : W0.heap.size ≤ W0.heap.size + 1 := Nat.le_succ _
        go_region_held3 (fun wx : World => Ext W0 wx ∧ wx.cell? ⟨ba, 0, none⟩ = some (.int .u64 a0) ∧ wx.cell? ⟨ba, 1, none⟩ = some (.int .u64 a1) ∧ wx.cell? ⟨ba, 2, none⟩ = some (.int .u64 a2) ∧ wx.cell? ⟨ba, 3, none⟩ = some (.int .u64 a3) ∧ wx.cell? ⟨bb, 0, none⟩ = some (.int .u64 b0) ∧ wx.cell? ⟨bb, 1, none⟩ = some (.int .u64 b1) ∧ wx.cell? ⟨bb, 2, none⟩ = some (.int .u64 b2) ∧ wx.cell? ⟨bb, 3, none⟩ = some (.int .u64 b3) ∧ wx.cell? ⟨bc, 0, none⟩ = some (.int .u64 c0) ∧ wx.cell? ⟨bc, 1, none⟩ = some (.int .u64 c1) ∧ wx.cell? ⟨bc, 2, none⟩ = some (.int .u64 c2) ∧ wx.cell? ⟨bc, 3, none⟩ = some (.int .u64 c3)) ((refine keep3r ?_ Ra Rb Rc; simp (maxDischargeDepth := 30) only [extAlloc, extDrew, Ext.st, Ext.refl, *])) (first | (go_at_call 18; with_reducible refine (Mu.out _ (G0.ext (by simp only [*]))).mono ?_; rintro e wy ⟨rfl, HX⟩; have hEy : Ext W0 wy := (by refine Ext.trans ?_ HX; simp only [*]); have hz0 : W0.heap.size ≤ wy.heap.size := hEy.size; have hz1 : W0.heap.size ≤ wy.heap.size + 1 := Nat.le_succ_of_le hz0; have htr : ∀ b, b < _ → b < wy.heap.size := (fun b h => Nat.lt_of_lt_of_le h HX.size); have hsz := HX.size; (try simp at hsz); (try have hs1 := Nat.lt_of_succ_le hsz); (try have hs2 := Nat.lt_of_succ_lt (Nat.lt_of_succ_le hsz)); obtain ⟨hcc, hff⟩ := HX.cells; (try simp at hcc); (try simp at hff)) | (go_at_call 18; with_reducible refine (Mz.out _ (G0.ext (by simp only [*]))).mono ?_; rintro e wy ⟨rfl, HX⟩; have hEy : Ext W0 wy := (by refine Ext.trans ?_ HX; simp only [*]); have hz0 : W0.heap.size ≤ wy.heap.size := hEy.size; have hz1 : W0.heap.size ≤ wy.heap.size + 1 := Nat.le_succ_of_le hz0; have htr : ∀ b, b < _ → b < wy.heap.size := (fun b h => Nat.lt_of_lt_of_le h HX.size); have hsz := HX.size; (try simp at hsz); (try have hs1 := Nat.lt_of_succ_le hsz); (try have hs2 := Nat.lt_of_succ_lt (Nat.lt_of_succ_le hsz)); obtain ⟨hcc, hff⟩ := HX.cells; (try simp at hcc); (try simp at hff)))
        all_goals
          go_wp2
          go_meet
          case rel => exact ⟨_, rfl, ⟨by simp [*], (by first | (go_simp; done) | (go_simp; exact World.cell?_setCell_same' _ _ _ (by go_simp))), (by first | (go_simp; done) | (go_simp; exact World.cell?_setCell_same' _ _ _ (by go_simp))), (by first | (go_simp; done) | (go_simp; exact World.cell?_setCell_same' _ _ _ (by go_simp))), (by first | (go_simp; done) | (go_simp; exact World.cell?_setCell_same' _ _ _ (by go_simp)))⟩, by simp only [*]⟩
      case rest =>
        obtain ⟨bz, rfl, Rzn, HXc⟩ := hcut
        replace Ra := Ra.ext HXc
        replace Rb := Rb.ext HXc
        replace Rc := Rc.ext HXc
        replace Rx := Rx.ext HXc
        replace Ry := Ry.ext HXc
        replace G0 := G0.ext HXc
        replace HE0 : Hid (Ext w wc) := HE0.out.trans HXc
        clear HXc
        clear W0
        obtain ⟨W0, hW0⟩ : ∃ W0, W0 = wc := ⟨_, rfl⟩
        subst hW0
        have Rz := Rzn
        clear Rzn
        go_wp2_with fail
        go_cut [10] (fun sk wx => ∃ bk : Nat, sk = .pointer (some ⟨bk, 0, none⟩) ∧ Row wx bk z0 z1 z2 z3 ∧ Ext W0 wx)
        case first =>
          have hl0 : W0.heap.size ≤ W0.heap.size := Nat.le_refl _
          have hl1 : W0.heap.size ≤ W0.heap.size + 1 := Nat.le_succ _
          go_region_held3 (fun wx : World => Ext W0 wx ∧ wx.cell? ⟨ba, 0, none⟩ = some (.int .u64 a0) ∧ wx.cell? ⟨ba, 1, none⟩ = some (.int .u64 a1) ∧ wx.cell? ⟨ba, 2, none⟩ = some (.int .u64 a2) ∧ wx.cell? ⟨ba, 3, none⟩ = some (.int .u64 a3) ∧ wx.cell? ⟨bb, 0, none⟩ = some (.int .u64 b0) ∧ wx.cell? ⟨bb, 1, none⟩ = some (.int .u64 b1) ∧ wx.cell? ⟨bb, 2, none⟩ = some (.int .u64 b2) ∧ wx.cell? ⟨bb, 3, none⟩ = some (.int .u64 b3) ∧ wx.cell? ⟨bc, 0, none⟩ = some (.int .u64 c0) ∧ wx.cell? ⟨bc, 1, none⟩ = some (.int .u64 c1) ∧ wx.cell? ⟨bc, 2, none⟩ = some (.int .u64 c2) ∧ wx.cell? ⟨bc, 3, none⟩ = some (.int .u64 c3)) ((refine keep3r ?_ Ra Rb Rc; simp (maxDischargeDepth := 30) only [extAlloc, extDrew, Ext.st, Ext.refl, *])) (first | (go_at_call 18; with_reducible refine (Mt.out _ (G0.ext (by simp only [*]))).mono ?_; rintro e wy ⟨rfl, HX⟩; have hEy : Ext W0 wy := (by refine Ext.trans ?_ HX; simp only [*]); have hz0 : W0.heap.size ≤ wy.heap.size := hEy.size; have hz1 : W0.heap.size ≤ wy.heap.size + 1 := Nat.le_succ_of_le hz0; have htr : ∀ b, b < _ → b < wy.heap.size := (fun b h => Nat.lt_of_lt_of_le h HX.size); have hsz := HX.size; (try simp at hsz); (try have hs1 := Nat.lt_of_succ_le hsz); (try have hs2 := Nat.lt_of_succ_lt (Nat.lt_of_succ_le hsz)); obtain ⟨hcc, hff⟩ := HX.cells; (try simp at hcc); (try simp at hff)) | (go_at_call 18; with_reducible refine (Mw.out _ (G0.ext (by simp only [*]))).mono ?_; rintro e wy ⟨rfl, HX⟩; have hEy : Ext W0 wy := (by refine Ext.trans ?_ HX; simp only [*]); have hz0 : W0.heap.size ≤ wy.heap.size := hEy.size; have hz1 : W0.heap.size ≤ wy.heap.size + 1 := Nat.le_succ_of_le hz0; have htr : ∀ b, b < _ → b < wy.heap.size := (fun b h => Nat.lt_of_lt_of_le h HX.size); have hsz := HX.size; (try simp at hsz); (try have hs1 := Nat.lt_of_succ_le hsz); (try have hs2 := Nat.lt_of_succ_lt (Nat.lt_of_succ_le hsz)); obtain ⟨hcc, hff⟩ := HX.cells; (try simp at hcc); (try simp at hff)))
          all_goals
            go_wp2
            go_meet
            case rel => exact ⟨_, rfl, ⟨by simp [*], (by first | (go_simp; done) | (go_simp; exact World.cell?_setCell_same' _ _ _ (by go_simp))), (by first | (go_simp; done) | (go_simp; exact World.cell?_setCell_same' _ _ _ (by go_simp))), (by first | (go_simp; done) | (go_simp; exact World.cell?_setCell_same' _ _ _ (by go_simp))), (by first | (go_simp; done) | (go_simp; exact World.cell?_setCell_same' _ _ _ (by go_simp)))⟩, by simp only [*]⟩
        case rest =>
          obtain ⟨bw, rfl, Rwn, HXc⟩ := hcut
          replace Ra := Ra.ext HXc
          replace Rb := Rb.ext HXc
          replace Rc := Rc.ext HXc
          replace Rx := Rx.ext HXc
          replace Ry := Ry.ext HXc
          replace Rz := Rz.ext HXc
          replace G0 := G0.ext HXc
          replace HE0 : Hid (Ext w wc) := HE0.out.trans HXc
          clear HXc
          clear W0
          obtain ⟨W0, hW0⟩ : ∃ W0, W0 = wc := ⟨_, rfl⟩
          subst hW0
          have Rw := Rwn
          clear Rwn
          go_wp2_with fail
          go_cut [11] (fun sk wx => ∃ bk : Nat, sk = .pointer (some ⟨bk, 0, none⟩) ∧ Row wx bk l0 l1 l2 l3 ∧ Ext W0 wx)
          case first =>
            have hl0 : W0.heap.size ≤ W0.heap.size := Nat.le_refl _
            have hl1 : W0.heap.size ≤ W0.heap.size + 1 := Nat.le_succ _
            go_region_held3 (fun wx : World => Ext W0 wx ∧ wx.cell? ⟨ba, 0, none⟩ = some (.int .u64 a0) ∧ wx.cell? ⟨ba, 1, none⟩ = some (.int .u64 a1) ∧ wx.cell? ⟨ba, 2, none⟩ = some (.int .u64 a2) ∧ wx.cell? ⟨ba, 3, none⟩ = some (.int .u64 a3) ∧ wx.cell? ⟨bb, 0, none⟩ = some (.int .u64 b0) ∧ wx.cell? ⟨bb, 1, none⟩ = some (.int .u64 b1) ∧ wx.cell? ⟨bb, 2, none⟩ = some (.int .u64 b2) ∧ wx.cell? ⟨bb, 3, none⟩ = some (.int .u64 b3) ∧ wx.cell? ⟨bc, 0, none⟩ = some (.int .u64 c0) ∧ wx.cell? ⟨bc, 1, none⟩ = some (.int .u64 c1) ∧ wx.cell? ⟨bc, 2, none⟩ = some (.int .u64 c2) ∧ wx.cell? ⟨bc, 3, none⟩ = some (.int .u64 c3)) ((refine keep3r ?_ Ra Rb Rc; simp (maxDischargeDepth := 30) only [extAlloc, extDrew, Ext.st, Ext.refl, *])) (first | (go_at_call 9; with_reducible refine (Ms.out _ (G0.ext (by simp only [*]))).mono ?_; rintro e wy ⟨rfl, HX⟩; have hEy : Ext W0 wy := (by refine Ext.trans ?_ HX; simp only [*]); have hz0 : W0.heap.size ≤ wy.heap.size := hEy.size; have hz1 : W0.heap.size ≤ wy.heap.size + 1 := Nat.le_succ_of_le hz0; have htr : ∀ b, b < _ → b < wy.heap.size := (fun b h => Nat.lt_of_lt_of_le h HX.size); have hsz := HX.size; (try simp at hsz); (try have hs1 := Nat.lt_of_succ_le hsz); (try have hs2 := Nat.lt_of_succ_lt (Nat.lt_of_succ_le hsz)); obtain ⟨hcc, hff⟩ := HX.cells; (try simp at hcc); (try simp at hff)) | (go_at_call 11; with_reducible refine (Ml.out _ (G0.ext (by simp only [*]))).mono ?_; rintro e wy ⟨rfl, HX⟩; have hEy : Ext W0 wy := (by refine Ext.trans ?_ HX; simp only [*]); have hz0 : W0.heap.size ≤ wy.heap.size := hEy.size; have hz1 : W0.heap.size ≤ wy.heap.size + 1 := Nat.le_succ_of_le hz0; have htr : ∀ b, b < _ → b < wy.heap.size := (fun b h => Nat.lt_of_lt_of_le h HX.size); have hsz := HX.size; (try simp at hsz); (try have hs1 := Nat.lt_of_succ_le hsz); (try have hs2 := Nat.lt_of_succ_lt (Nat.lt_of_succ_le hsz)); obtain ⟨hcc, hff⟩ := HX.cells; (try simp at hcc); (try simp at hff)))
            all_goals
              go_wp2
              go_meet
              case rel => exact ⟨_, rfl, ⟨by simp [*], (by first | (go_simp; done) | (go_simp; exact World.cell?_setCell_same' _ _ _ (by go_simp))), (by first | (go_simp; done) | (go_simp; exact World.cell?_setCell_same' _ _ _ (by go_simp))), (by first | (go_simp; done) | (go_simp; exact World.cell?_setCell_same' _ _ _ (by go_simp))), (by first | (go_simp; done) | (go_simp; exact World.cell?_setCell_same' _ _ _ (by go_simp)))⟩, by simp only [*]⟩
          case rest =>
            obtain ⟨bs, rfl, Rsn, HXc⟩ := hcut
            replace Ra := Ra.ext HXc
            replace Rb := Rb.ext HXc
            replace Rc := Rc.ext HXc
            replace Rx := Rx.ext HXc
            replace Ry := Ry.ext HXc
            replace Rz := Rz.ext HXc
            replace Rw := Rw.ext HXc
            replace G0 := G0.ext HXc
            replace HE0 : Hid (Ext w wc) := HE0.out.trans HXc
            clear HXc
            clear W0
            obtain ⟨W0, hW0⟩ : ∃ W0, W0 = wc := ⟨_, rfl⟩
            subst hW0
            have Rs := Rsn
            clear Rsn
            go_wp2_with fail
            go_region_held3 (fun wx : World => Ext W0 wx ∧ wx.cell? ⟨ba, 0, none⟩ = some (.int .u64 a0) ∧ wx.cell? ⟨ba, 1, none⟩ = some (.int .u64 a1) ∧ wx.cell? ⟨ba, 2, none⟩ = some (.int .u64 a2) ∧ wx.cell? ⟨ba, 3, none⟩ = some (.int .u64 a3) ∧ wx.cell? ⟨bb, 0, none⟩ = some (.int .u64 b0) ∧ wx.cell? ⟨bb, 1, none⟩ = some (.int .u64 b1) ∧ wx.cell? ⟨bb, 2, none⟩ = some (.int .u64 b2) ∧ wx.cell? ⟨bb, 3, none⟩ = some (.int .u64 b3) ∧ wx.cell? ⟨bx, 0, none⟩ = some (.int .u64 x0) ∧ wx.cell? ⟨bx, 1, none⟩ = some (.int .u64 x1) ∧ wx.cell? ⟨bx, 2, none⟩ = some (.int .u64 x2) ∧ wx.cell? ⟨bx, 3, none⟩ = some (.int .u64 x3) ∧ wx.cell? ⟨bY, 0, none⟩ = some (.int .u64 x0) ∧ wx.cell? ⟨bY, 1, none⟩ = some (.int .u64 x1) ∧ wx.cell? ⟨bY, 2, none⟩ = some (.int .u64 x2) ∧ wx.cell? ⟨bY, 3, none⟩ = some (.int .u64 x3) ∧ wx.cell? ⟨bz, 0, none⟩ = some (.int .u64 z0) ∧ wx.cell? ⟨bz, 1, none⟩ = some (.int .u64 z1) ∧ wx.cell? ⟨bz, 2, none⟩ = some (.int .u64 z2) ∧ wx.cell? ⟨bz, 3, none⟩ = some (.int .u64 z3) ∧ wx.cell? ⟨bw, 0, none⟩ = some (.int .u64 z0) ∧ wx.cell? ⟨bw, 1, none⟩ = some (.int .u64 z1) ∧ wx.cell? ⟨bw, 2, none⟩ = some (.int .u64 z2) ∧ wx.cell? ⟨bw, 3, none⟩ = some (.int .u64 z3) ∧ wx.cell? ⟨bs, 0, none⟩ = some (.int .u64 l0) ∧ wx.cell? ⟨bs, 1, none⟩ = some (.int .u64 l1) ∧ wx.cell? ⟨bs, 2, none⟩ = some (.int .u64 l2) ∧ wx.cell? ⟨bs, 3, none⟩ = some (.int .u64 l3)) (first | exact keep7r (Ext.drew (Ext.refl _)) Ra Rb Rx Ry Rz Rw Rs | exact keep7r (by assumption) Ra Rb Rx Ry Rz Rw Rs) (first | (go_at_call 9; with_reducible refine (Mo.out _ (G0.ext (by simp only [*]))).mono ?_; rintro e wy ⟨rfl, HX⟩; have hEy : Ext W0 wy := (by refine Ext.trans ?_ HX; simp only [*])) | (go_at_call 13; with_reducible refine (Nx.out _ (G0.ext (by simp only [*]))).mono ?_; rintro e wy ⟨rfl, HX⟩; have hEy : Ext W0 wy := (by refine Ext.trans ?_ HX; simp only [*])) | (go_at_call 13; with_reducible refine (Nz.out _ (G0.ext (by simp only [*]))).mono ?_; rintro e wy ⟨rfl, HX⟩; have hEy : Ext W0 wy := (by refine Ext.trans ?_ HX; simp only [*])) | (go_at_call 13; with_reducible refine (Nl.out _ (G0.ext (by simp only [*]))).mono ?_; rintro e wy ⟨rfl, HX⟩; have hEy : Ext W0 wy := (by refine Ext.trans ?_ HX; simp only [*])) | (go_at_call 9; with_reducible refine (Ms.out _ (G0.ext (by simp only [*]))).mono ?_; rintro e wy ⟨rfl, HX⟩; have hEy : Ext W0 wy := (by refine Ext.trans ?_ HX; simp only [*])) | (go_at_call 9; with_reducible refine (Mr.out _ (G0.ext (by simp only [*]))).mono ?_; rintro e wy ⟨rfl, HX⟩; have hEy : Ext W0 wy := (by refine Ext.trans ?_ HX; simp only [*])) | (go_at_call 17; with_reducible refine (awake_any _ (G0.ext (by simp only [*]))).mono ?_; rintro e wy ⟨rfl, HX⟩; have hEy : Ext W0 wy := (by refine Ext.trans ?_ HX; simp only [*])))
            all_goals
              have hE : Ext w wy := HE0.out.trans hEy
              clear hEy qx qz ql qs
              go_wp2
              go_ret
              exact ⟨rfl, hE⟩
end Go.Proofs.YtdjdociecokilaaDoor
