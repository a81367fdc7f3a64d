/-
  ScalarInverses, walked: it answers true; nothing old is turned.
-/
import Derived.Test.YtdjdociecokilaaDoorSFn
namespace Go.Proofs.YtdjdociecokilaaDoor
open Go.RowKit
theorem keep3i {W0 wx : World} {b c d : Nat} {x0 x1 x2 x3 y0 y1 y2 y3 z0 z1 z2 z3 : Int} (hE : Ext W0 wx) (h : Row W0 b x0 x1 x2 x3) (k : Row W0 c y0 y1 y2 y3) (l : Row W0 d z0 z1 z2 z3) : Ext W0 wx ∧ wx.cell? ⟨b, 0, none⟩ = some (.int .u64 x0) ∧ wx.cell? ⟨b, 1, none⟩ = some (.int .u64 x1) ∧ wx.cell? ⟨b, 2, none⟩ = some (.int .u64 x2) ∧ wx.cell? ⟨b, 3, none⟩ = some (.int .u64 x3) ∧ wx.cell? ⟨c, 0, none⟩ = some (.int .u64 y0) ∧ wx.cell? ⟨c, 1, none⟩ = some (.int .u64 y1) ∧ wx.cell? ⟨c, 2, none⟩ = some (.int .u64 y2) ∧ wx.cell? ⟨c, 3, none⟩ = some (.int .u64 y3) ∧ wx.cell? ⟨d, 0, none⟩ = some (.int .u64 z0) ∧ wx.cell? ⟨d, 1, none⟩ = some (.int .u64 z1) ∧ wx.cell? ⟨d, 2, none⟩ = some (.int .u64 z2) ∧ wx.cell? ⟨d, 3, none⟩ = some (.int .u64 z3) :=
  ⟨hE, later hE h.2.1, later hE h.2.2.1, later hE h.2.2.2.1, later hE h.2.2.2.2, later hE k.2.1, later hE k.2.2.1, later hE k.2.2.2.1, later hE k.2.2.2.2, later hE l.2.1, later hE l.2.2.1, later hE l.2.2.2.1, later hE l.2.2.2.2⟩
theorem inv_one {A r s : Int} (hr0 : 0 ≤ r) (hr : r < FQ) (hs0 : 0 ≤ s) (hs : s < FQ) (h1 : (A * r) % FQ = 1) (h2 : (A * s) % FQ = 1) : r = s := by
  have e1 : (s * (A * r)) % FQ = s := by rw [Int.mul_emod, h1, Int.mul_one, Int.emod_emod_of_dvd _ (Int.dvd_refl _), Int.emod_eq_of_lt hs0 hs]
  have e2 : (r * (A * s)) % FQ = r := by rw [Int.mul_emod, h2, Int.mul_one, Int.emod_emod_of_dvd _ (Int.dvd_refl _), Int.emod_eq_of_lt hr0 hr]
  rw [← e1, ← e2]
  congr 1
  grind
theorem invP_one {A r0 r1 r2 r3 s0 s1 s2 s3 : Int} (hr : InvP A r0 r1 r2 r3) (hs : InvP A s0 s1 s2 s3) : r0 = s0 ∧ r1 = s1 ∧ r2 = s2 ∧ r3 = s3 := by
  refine val_inj hr.1 hs.1 ?_
  by_cases hA : A % FQ = 0
  · rw [hr.2.2.1 hA, hs.2.2.1 hA]
  · exact inv_one (val_bd hr.1).1 hr.2.1 (val_bd hs.1).1 hs.2.1 (hr.2.2.2 hA) (hs.2.2.2 hA)
/-- The inverse of the inverse is the number. -/
theorem inv_back {A i0 i1 i2 i3 r0 r1 r2 r3 l0 l1 l2 l3 : Int} (hA : A % FQ ≠ 0) (hi : InvP A i0 i1 i2 i3) (hr : InvP (val i0 i1 i2 i3) r0 r1 r2 r3) (hl : QMod A l0 l1 l2 l3) : r0 = l0 ∧ r1 = l1 ∧ r2 = l2 ∧ r3 = l3 := by
  refine val_inj hr.1 hl.1 ?_
  have h1 := hi.2.2.2 hA
  have hn : val i0 i1 i2 i3 % FQ ≠ 0 := by
    intro hz
    rw [Int.mul_emod, hz, Int.mul_zero] at h1
    exact absurd h1 (by decide)
  refine inv_one (val_bd hr.1).1 hr.2.1 (val_bd hl.1).1 hl.less (hr.2.2.2 hn) ?_
  rw [hl.2, Int.mul_comm, modq_mul_mod]
  exact h1
attribute [local go_sem] run_eq4
set_option maxHeartbeats 4000000 in
theorem inverses_any (a0 a1 a2 a3 : Int) (ha : Lim4 a0 a1 a2 a3) (w : World) (hG : Gl w) :
    Calls Tryd.prog 5 #[.agg #[.int .u64 a0, .int .u64 a1, .int .u64 a2, .int .u64 a3]] w fun e w' => e = .returned (.bool true) ∧ Ext w w' := by
  have R0 := Row.new w a0 a1 a2 a3
  have HE0 : Hid (Ext w (w.alloc (.cells #[.int .u64 a0, .int .u64 a1, .int .u64 a2, .int .u64 a3] 24))) := (Ext.refl _).alloc _
  have zL : Lim4 0 0 0 0 := ⟨lim_of _ rfl, lim_of _ rfl, lim_of _ rfl, lim_of _ rfl⟩
  go_enter Tryd.func5, Tryd.ntmps5
  go_wp2_with fail
  generalize w.alloc (.cells #[.int .u64 a0, .int .u64 a1, .int .u64 a2, .int .u64 a3] 24) = W1 at *
  generalize w.heap.size = ba at *
  refine (sinv_any _ _ _ _ ha _ (hG.ext HE0.out)).mono ?_
  rintro e w2 ⟨i0, i1, i2, i3, rfl, HI, HX⟩
  have RI := (Row.new w2 i0 i1 i2 i3).ext ((Ext.refl _).alloc (.cells #[.int .u64 1, .int .u64 0, .int .u64 0, .int .u64 0] 24))
  have RO := Row.new (w2.alloc (.cells #[.int .u64 i0, .int .u64 i1, .int .u64 i2, .int .u64 i3] 24)) 1 0 0 0
  rw [show (w2.alloc (.cells #[.int .u64 i0, .int .u64 i1, .int .u64 i2, .int .u64 i3] 24)).heap.size = w2.heap.size + 1 from by simp] at RO
  have HXa : Ext W1 ((w2.alloc (.cells #[.int .u64 i0, .int .u64 i1, .int .u64 i2, .int .u64 i3] 24)).alloc (.cells #[.int .u64 1, .int .u64 0, .int .u64 0, .int .u64 0] 24)) := (HX.alloc _).alloc _
  have RA := R0.ext HXa
  have HE2 : Hid (Ext w ((w2.alloc (.cells #[.int .u64 i0, .int .u64 i1, .int .u64 i2, .int .u64 i3] 24)).alloc (.cells #[.int .u64 1, .int .u64 0, .int .u64 0, .int .u64 0] 24))) := HE0.out.trans HXa
  clear HX HXa HE0 R0
  obtain ⟨la, a0', a1', a2', a3'⟩ := RA
  go_wp2_with fail
  have RA : Row ((w2.alloc (.cells #[.int .u64 i0, .int .u64 i1, .int .u64 i2, .int .u64 i3] 24)).alloc (.cells #[.int .u64 1, .int .u64 0, .int .u64 0, .int .u64 0] 24)) ba a0 a1 a2 a3 := ⟨la, a0', a1', a2', a3'⟩
  clear la a0' a1' a2' a3'
  generalize (w2.alloc (.cells #[.int .u64 i0, .int .u64 i1, .int .u64 i2, .int .u64 i3] 24)).alloc (.cells #[.int .u64 1, .int .u64 0, .int .u64 0, .int .u64 0] 24) = W2 at *
  generalize w2.heap.size + 1 = bo at *
  generalize w2.heap.size = bi at *
  refine (sadd_any _ _ _ _ 0 0 0 0 ha zL _ (hG.ext HE2.out)).mono ?_
  rintro e w3 ⟨l0, l1, l2, l3, rfl, HL', HX⟩
  have HL : Hid (QMod (val a0 a1 a2 a3) l0 l1 l2 l3) := HL'.out.cong (by rw [show val 0 0 0 0 = 0 from by decide, Int.add_zero])
  have RA3 := RA.ext HX
  have RI3 := RI.ext HX
  have RO3 := RO.ext HX
  have HE3 : Hid (Ext w w3) := HE2.out.trans HX
  have G3 := hG.ext HE3.out
  clear HX RA RI RO HE2 HL'
  cases hz : eq4 l0 l1 l2 l3 0 0 0 0
  case true =>
    have HZ : Hid ((val a0 a1 a2 a3) % FQ = 0) := by
      have := (eq4_iff HL.out.1 zL).1 hz
      rw [HL.out.2, show val 0 0 0 0 = 0 from by decide] at this
      exact this
    have hiz : eq4 i0 i1 i2 i3 0 0 0 0 = true := (eq4_iff HI.out.1 zL).2 (by rw [HI.out.2.2.1 HZ.out]; decide)
    obtain ⟨li, i0', i1', i2', i3'⟩ := RI3
    clear RA3 RO3
    go_wp2_with fail
    refine (awake_any _ G3).mono ?_
    rintro e w4 ⟨rfl, HX⟩
    have hE : Ext w w4 := HE3.out.trans HX
    clear li i0' i1' i2' i3' hiz hz HX
    go_wp2
    go_ret
    exact ⟨rfl, hE⟩
  case false =>
    have HZ : Hid (¬ (val a0 a1 a2 a3) % FQ = 0) := by
      intro h0
      rw [(eq4_iff HL.out.1 zL).2 (by rw [HL.out.2, h0]; decide)] at hz
      cases hz
    have M1 : Hid (∀ wx, Calls Tryd.prog 21 #[.agg #[.int .u64 a0, .int .u64 a1, .int .u64 a2, .int .u64 a3]] wx fun e w' => e = .returned (.agg #[.int .u64 i0, .int .u64 i1, .int .u64 i2, .int .u64 i3]) ∧ Ext wx w') := fun wx => (refSInv_any _ _ _ _ ha wx).mono fun _ _ ⟨s0, s1, s2, s3, h1, h2, h3⟩ => by
      obtain ⟨rfl, rfl, rfl, rfl⟩ := invP_one h2.out HI.out
      exact ⟨h1, h3⟩
    have M2 : Hid (∀ wx, Gl wx → Calls Tryd.prog 18 #[.agg #[.int .u64 a0, .int .u64 a1, .int .u64 a2, .int .u64 a3], .agg #[.int .u64 i0, .int .u64 i1, .int .u64 i2, .int .u64 i3]] wx fun e w' => e = .returned (.agg #[.int .u64 1, .int .u64 0, .int .u64 0, .int .u64 0]) ∧ Ext wx w') := fun wx h => (smul_any _ _ _ _ _ _ _ _ ha HI.out.1 wx h).mono fun _ _ ⟨s0, s1, s2, s3, h1, h2, h3⟩ => by
      obtain ⟨rfl, rfl, rfl, rfl⟩ := qmod_const (c0 := 1) (c1 := 0) (c2 := 0) (c3 := 0) h2.out ⟨lim_of _ rfl, lim_of _ rfl, lim_of _ rfl, lim_of _ rfl⟩ (by rw [HI.out.2.2.2 HZ.out]; decide)
      exact ⟨h1, h3⟩
    have M3 : Hid (∀ wx, Gl wx → Calls Tryd.prog 20 #[.agg #[.int .u64 i0, .int .u64 i1, .int .u64 i2, .int .u64 i3]] wx fun e w' => e = .returned (.agg #[.int .u64 l0, .int .u64 l1, .int .u64 l2, .int .u64 l3]) ∧ Ext wx w') := fun wx h => (sinv_any _ _ _ _ HI.out.1 wx h).mono fun _ _ ⟨s0, s1, s2, s3, h1, h2, h3⟩ => by
      obtain ⟨rfl, rfl, rfl, rfl⟩ := inv_back HZ.out HI.out h2.out HL.out
      exact ⟨h1, h3⟩
    have M4 : Hid (∀ wx, Gl wx → Calls Tryd.prog 9 #[.agg #[.int .u64 a0, .int .u64 a1, .int .u64 a2, .int .u64 a3], .agg #[.int .u64 0, .int .u64 0, .int .u64 0, .int .u64 0]] wx fun e w' => e = .returned (.agg #[.int .u64 l0, .int .u64 l1, .int .u64 l2, .int .u64 l3]) ∧ Ext wx w') := fun wx h => sadd_fn ha zL HL.out (by rw [show val 0 0 0 0 = 0 from by decide, Int.add_zero]) wx h
    have q1 := eq4_self i0 i1 i2 i3
    have q2 := eq4_self l0 l1 l2 l3
    have q3 := eq4_self 1 0 0 0
    have G0 := G3
    clear HI HL G3 hG
    go_wp2_with fail
    clear hz
    obtain ⟨W0, hW0⟩ : ∃ W0, W0 = w3 := ⟨_, rfl⟩
    subst hW0
    go_region_held3 (fun wx : World => Ext W0 wx ∧ wx.cell? ⟨ba, 0, none⟩ = some (.int .u64 a0) ∧ wx.cell? ⟨ba, 1, none⟩ = some (.int .u64 a1) ∧ wx.cell? ⟨ba, 2, none⟩ = some (.int .u64 a2) ∧ wx.cell? ⟨ba, 3, none⟩ = some (.int .u64 a3) ∧ wx.cell? ⟨bi, 0, none⟩ = some (.int .u64 i0) ∧ wx.cell? ⟨bi, 1, none⟩ = some (.int .u64 i1) ∧ wx.cell? ⟨bi, 2, none⟩ = some (.int .u64 i2) ∧ wx.cell? ⟨bi, 3, none⟩ = some (.int .u64 i3) ∧ wx.cell? ⟨bo, 0, none⟩ = some (.int .u64 1) ∧ wx.cell? ⟨bo, 1, none⟩ = some (.int .u64 0) ∧ wx.cell? ⟨bo, 2, none⟩ = some (.int .u64 0) ∧ wx.cell? ⟨bo, 3, none⟩ = some (.int .u64 0)) (first | exact keep3i (Ext.drew (Ext.refl _)) RA3 RI3 RO3 | exact keep3i (by assumption) RA3 RI3 RO3) (first | (go_at_call 21; with_reducible refine (M1.out _).mono ?_; rintro e wy ⟨rfl, HX⟩; have hEy : Ext W0 wy := (by refine Ext.trans ?_ HX; simp only [*])) | (go_at_call 18; with_reducible refine (M2.out _ (G0.ext (by simp only [*]))).mono ?_; rintro e wy ⟨rfl, HX⟩; have hEy : Ext W0 wy := (by refine Ext.trans ?_ HX; simp only [*])) | (go_at_call 20; with_reducible refine (M3.out _ (G0.ext (by simp only [*]))).mono ?_; rintro e wy ⟨rfl, HX⟩; have hEy : Ext W0 wy := (by refine Ext.trans ?_ HX; simp only [*])) | (go_at_call 9; with_reducible refine (M4.out _ (G0.ext (by simp only [*]))).mono ?_; rintro e wy ⟨rfl, HX⟩; have hEy : Ext W0 wy := (by refine Ext.trans ?_ HX; simp only [*])) | (go_at_call 17; with_reducible refine (awake_any _ (G0.ext (by simp only [*]))).mono ?_; rintro e wy ⟨rfl, HX⟩; have hEy : Ext W0 wy := (by refine Ext.trans ?_ HX; simp only [*])))
    all_goals
      have hE : Ext w wy := HE3.out.trans hEy
      clear hEy q1 q2 q3
      go_wp2
      go_ret
      exact ⟨rfl, hE⟩
end Go.Proofs.YtdjdociecokilaaDoor
