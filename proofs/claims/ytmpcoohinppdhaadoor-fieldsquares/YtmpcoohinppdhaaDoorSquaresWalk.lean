/-
  FieldSquares, walked: it answers true; nothing old is turned.
-/
import Derived.Test.YtmpcoohinppdhaaDoorFn
import Derived.Deep.QuietTactic
import Derived.BigQuiet
namespace Go.Proofs.YtmpcoohinppdhaaDoor
open Go.RowKit
theorem keep3 {W0 wx : World} {b c d : Nat} {x0 x1 x2 x3 y0 y1 y2 y3 z0 z1 z2 z3 : Int} (hb : Ext W0 wx) (h : Row W0 b x0 x1 x2 x3) (k : Row W0 c y0 y1 y2 y3) (l : Row W0 d z0 z1 z2 z3) : Ext W0 wx ∧ wx.cell? ⟨b, 0, none⟩ = some (.int .u64 x0) ∧ wx.cell? ⟨b, 1, none⟩ = some (.int .u64 x1) ∧ wx.cell? ⟨b, 2, none⟩ = some (.int .u64 x2) ∧ wx.cell? ⟨b, 3, none⟩ = some (.int .u64 x3) ∧ wx.cell? ⟨c, 0, none⟩ = some (.int .u64 y0) ∧ wx.cell? ⟨c, 1, none⟩ = some (.int .u64 y1) ∧ wx.cell? ⟨c, 2, none⟩ = some (.int .u64 y2) ∧ wx.cell? ⟨c, 3, none⟩ = some (.int .u64 y3) ∧ wx.cell? ⟨d, 0, none⟩ = some (.int .u64 z0) ∧ wx.cell? ⟨d, 1, none⟩ = some (.int .u64 z1) ∧ wx.cell? ⟨d, 2, none⟩ = some (.int .u64 z2) ∧ wx.cell? ⟨d, 3, none⟩ = some (.int .u64 z3) :=
  ⟨hb, later hb h.2.1, later hb h.2.2.1, later hb h.2.2.2.1, later hb h.2.2.2.2, later hb k.2.1, later hb k.2.2.1, later hb k.2.2.2.1, later hb k.2.2.2.2, later hb l.2.1, later hb l.2.2.1, later hb l.2.2.2.1, later hb l.2.2.2.2⟩
theorem sq_ok {A m0 m1 m2 m3 x0 x1 x2 x3 : Int} {ok : Bool} (hm : FMod (A * A) m0 m1 m2 m3) (h : SqrtP (val m0 m1 m2 m3) x0 x1 x2 x3 ok) : ok = true ∧ x0 % 2 = 0 ∧ (FMod A x0 x1 x2 x3 ∨ FMod (0 - A) x0 x1 x2 x3) := by
  have e : val m0 m1 m2 m3 % FP = (A * A) % FP := by rw [hm.2, Int.emod_emod_of_dvd _ (Int.dvd_refl _)]
  have hk := h.2.2.1.2 (rootQ_of (y := A) e.symm)
  obtain ⟨he, hs⟩ := h.2.2.2.1 hk
  rw [e] at hs
  have hv : val x0 x1 x2 x3 % FP = val x0 x1 x2 x3 := Int.emod_eq_of_lt (val_bd h.1).1 h.2.1
  refine ⟨hk, by rw [← val_odd]; exact he, ?_⟩
  rcases roots_two hs with h1 | h1
  · exact .inl ⟨h.1, hv ▸ h1⟩
  · refine .inr ⟨h.1, ?_⟩
    rw [← hv]
    obtain ⟨k, hk⟩ := Int.dvd_of_emod_eq_zero h1
    exact emod_of k (by omega)
theorem opp_zero {A o0 o1 o2 o3 : Int} (ho : FMod (0 - A) o0 o1 o2 o3) (h : eq4 o0 o1 o2 o3 0 0 0 0 = true) : A % FP = 0 := by
  have h0 : val o0 o1 o2 o3 = val 0 0 0 0 := (eq4_iff ho.1 (by unfold Lim4 Lim; decide)).1 h
  rw [ho.2, show val 0 0 0 0 = 0 from by decide] at h0
  obtain ⟨k, hk⟩ := Int.dvd_of_emod_eq_zero h0
  rw [show A = 0 + FP * (0 - k) from by rw [Int.mul_sub, Int.mul_zero, ← hk]; omega]
  rw [emod_of (0 - k) rfl]
  rfl
theorem sq_zero {A o0 o1 o2 o3 x0 x1 x2 x3 : Int} (ho : FMod (0 - A) o0 o1 o2 o3) (hx : FMod A x0 x1 x2 x3 ∨ FMod (0 - A) x0 x1 x2 x3) (h : eq4 o0 o1 o2 o3 0 0 0 0 = true) : eq4 x0 x1 x2 x3 0 0 0 0 = true := by
  have hA := opp_zero ho h
  have hl : Lim4 0 0 0 0 := by unfold Lim4 Lim; decide
  rcases hx with h1 | h1
  · refine (eq4_iff h1.1 hl).2 ?_
    rw [h1.2, hA]
    decide
  · obtain ⟨rfl, rfl, rfl, rfl⟩ := h1.one ho rfl
    exact h
theorem sq_one {A o0 o1 o2 o3 r0 r1 r2 r3 s0 s1 s2 s3 : Int} {is no : Bool} (ho : FMod (0 - A) o0 o1 o2 o3) (h : eq4 o0 o1 o2 o3 0 0 0 0 = false) (h1 : SqrtP A r0 r1 r2 r3 is) (h2 : SqrtP (val o0 o1 o2 o3) s0 s1 s2 s3 no) : is = !no := by
  have hl : Lim4 0 0 0 0 := by unfold Lim4 Lim; decide
  have hA : A % FP ≠ 0 := by
    intro hz
    have : val o0 o1 o2 o3 = val 0 0 0 0 := by
      rw [ho.2, Int.sub_emod, hz]
      decide
    have := (eq4_iff ho.1 hl).2 this
    rw [h] at this
    cases this
  have hs : (A + val o0 o1 o2 o3) % FP = 0 := by
    rw [Int.add_emod, ho.2, Int.emod_emod_of_dvd _ (Int.dvd_refl _), ← Int.add_emod, show A + (0 - A) = 0 from by omega]
    rfl
  have hq := rootQ_one hs hA
  have k1 := h1.2.2.1
  have k2 := h2.2.2.1
  cases is <;> cases no <;> simp_all
attribute [local go_sem] run_eq4
set_option maxHeartbeats 4000000 in
theorem squares_any (a0 a1 a2 a3 : Int) (ha : Lim4 a0 a1 a2 a3) (w : World) (hG : Gl w) :
    Calls Tryd.prog 5 #[.agg #[.int .u64 a0, .int .u64 a1, .int .u64 a2, .int .u64 a3]] w fun e w' => e = .returned (.bool true) ∧ Ext w w' := by
  have R1 := Row.new w a0 a1 a2 a3
  have HE0 : Hid (Ext w (w.alloc (.cells #[.int .u64 a0, .int .u64 a1, .int .u64 a2, .int .u64 a3] 24))) := (Ext.refl _).alloc _
  have z0 : Lim4 0 0 0 0 := ⟨lim_of _ rfl, lim_of _ rfl, lim_of _ rfl, lim_of _ rfl⟩
  go_enter Tryd.func5, Tryd.ntmps5
  go_wp2_with fail
  generalize w.alloc (.cells #[.int .u64 a0, .int .u64 a1, .int .u64 a2, .int .u64 a3] 24) = W1 at *
  generalize w.heap.size = ba at *
  refine (fmul_any _ _ _ _ _ _ _ _ ha ha _ (hG.ext HE0.out)).mono ?_
  rintro e w2 ⟨m0, m1, m2, m3, rfl, HM, HX⟩
  have R2 := R1.ext HX
  have HE2 : Hid (Ext w w2) := HE0.out.trans HX
  clear HX R1 HE0
  go_wp2_with fail
  refine (sqrt_any _ _ _ _ HM.out.1 _ (hG.ext HE2.out)).mono ?_
  rintro e w3 ⟨x0, x1, x2, x3, ok, rfl, HS, HX⟩
  obtain ⟨hok, hev, hor⟩ := sq_ok HM.out HS.out
  subst hok
  have HEV : Hid (x0 % 2 = 0) := hev
  have HOR : Hid (FMod (val a0 a1 a2 a3) x0 x1 x2 x3 ∨ FMod (0 - val a0 a1 a2 a3) x0 x1 x2 x3) := hor
  have hx : Lim4 x0 x1 x2 x3 := HS.out.1
  have RX := Row.new w3 x0 x1 x2 x3
  have R3 := (R2.ext HX).ext ((Ext.refl _).alloc (.cells #[.int .u64 x0, .int .u64 x1, .int .u64 x2, .int .u64 x3] 24))
  have HE3 : Hid (Ext w (w3.alloc (.cells #[.int .u64 x0, .int .u64 x1, .int .u64 x2, .int .u64 x3] 24))) := (HE2.out.trans HX).alloc _
  clear HX R2 HE2 HM HS hev hor
  obtain ⟨l3, a30, a31, a32, a33⟩ := R3
  go_wp2_with fail
  have R3 : Row (w3.alloc (.cells #[.int .u64 x0, .int .u64 x1, .int .u64 x2, .int .u64 x3] 24)) ba a0 a1 a2 a3 := ⟨l3, a30, a31, a32, a33⟩
  clear l3 a30 a31 a32 a33
  generalize w3.alloc (.cells #[.int .u64 x0, .int .u64 x1, .int .u64 x2, .int .u64 x3] 24) = W3 at *
  generalize w3.heap.size = bx at *
  refine (fsub_any 0 0 0 0 _ _ _ _ z0 ha _ (hG.ext HE3.out)).mono ?_
  rintro e w4 ⟨o0, o1, o2, o3, rfl, HO', HX⟩
  have HO : Hid (FMod (0 - val a0 a1 a2 a3) o0 o1 o2 o3) := by
    have h := HO'.out
    rwa [show val 0 0 0 0 = 0 from by decide] at h
  have ho : Lim4 o0 o1 o2 o3 := HO.out.1
  have RO := Row.new w4 o0 o1 o2 o3
  have HXa := HX.alloc (.cells #[.int .u64 o0, .int .u64 o1, .int .u64 o2, .int .u64 o3] 24)
  have RX4 := RX.ext HXa
  have RA4 := R3.ext HXa
  have HE4 : Hid (Ext w (w4.alloc (.cells #[.int .u64 o0, .int .u64 o1, .int .u64 o2, .int .u64 o3] 24))) := HE3.out.trans HXa
  clear HX HXa R3 RX HE3 HO'
  have G0 := hG.ext HE4.out
  go_wp2_with fail
  generalize w4.alloc (.cells #[.int .u64 o0, .int .u64 o1, .int .u64 o2, .int .u64 o3] 24) = W0 at *
  generalize w4.heap.size = bo at *
  have hbit : bits BinOp.and IntKind.u64 x0 1 = 0 := by rw [and1 _ hx.1]; exact HEV.out
  go_cut [39] (fun s39 wx => s39 = .bool false ∧ Ext W0 wx)
  case first =>
    cases hq : eq4 x0 x1 x2 x3 o0 o1 o2 o3
    · have HF : Hid (FMod (val a0 a1 a2 a3) x0 x1 x2 x3) := by
        rcases HOR.out with h | h
        · exact h
        · obtain ⟨rfl, rfl, rfl, rfl⟩ := h.one HO.out rfl
          rw [eq4_self] at hq
          cases hq
      have M6 : Hid (∀ wx, Calls Tryd.prog 6 #[.agg #[.int .u64 a0, .int .u64 a1, .int .u64 a2, .int .u64 a3], .agg #[.int .u64 0, .int .u64 0, .int .u64 0, .int .u64 0]] wx fun e w' => e = .returned (.agg #[.int .u64 x0, .int .u64 x1, .int .u64 x2, .int .u64 x3]) ∧ Ext wx w') := fun wx => fadd_fn ha z0 HF.out (by rw [show val 0 0 0 0 = 0 from by decide, Int.add_zero]) wx
      have q1 := eq4_self x0 x1 x2 x3
      go_region_held3 (fun wx : World => Ext W0 wx ∧ wx.cell? ⟨ba, 0, none⟩ = some (.int .u64 a0) ∧ wx.cell? ⟨ba, 1, none⟩ = some (.int .u64 a1) ∧ wx.cell? ⟨ba, 2, none⟩ = some (.int .u64 a2) ∧ wx.cell? ⟨ba, 3, none⟩ = some (.int .u64 a3) ∧ wx.cell? ⟨bx, 0, none⟩ = some (.int .u64 x0) ∧ wx.cell? ⟨bx, 1, none⟩ = some (.int .u64 x1) ∧ wx.cell? ⟨bx, 2, none⟩ = some (.int .u64 x2) ∧ wx.cell? ⟨bx, 3, none⟩ = some (.int .u64 x3) ∧ wx.cell? ⟨bo, 0, none⟩ = some (.int .u64 o0) ∧ wx.cell? ⟨bo, 1, none⟩ = some (.int .u64 o1) ∧ wx.cell? ⟨bo, 2, none⟩ = some (.int .u64 o2) ∧ wx.cell? ⟨bo, 3, none⟩ = some (.int .u64 o3)) (first | exact keep3 (Ext.drew (Ext.refl _)) RA4 RX4 RO | exact keep3 (by assumption) RA4 RX4 RO) (first | (go_at_call 6; refine (M6.out _).mono ?_; rintro e wy ⟨rfl, HX⟩; have hEy : Ext W0 wy := (by refine Ext.trans ?_ HX; simp only [*])))
      all_goals
        go_wp2
        go_meet
        case rel => exact ⟨rfl, by simp only [*]⟩
    · obtain ⟨la, a0', a1', a2', a3'⟩ := RA4
      obtain ⟨lx, x0', x1', x2', x3'⟩ := RX4
      obtain ⟨lo, o0', o1', o2', o3'⟩ := RO
      go_quiet (fail)
      go_wp2
      go_meet
      case rel => exact ⟨rfl, (Ext.refl _).drewN _⟩
  case rest =>
    obtain ⟨rfl, HXc⟩ := hcut
    have RA5 := RA4.ext HXc
    have RX5 := RX4.ext HXc
    have RO5 := RO.ext HXc
    have HE5 : Hid (Ext w wc) := HE4.out.trans HXc
    have G5 := G0.ext HXc
    clear HXc RA4 RX4 RO HE4 G0 hbit
    have RA6 := RA5
    have RO6 := RO5
    obtain ⟨la, a0', a1', a2', a3'⟩ := RA5
    obtain ⟨lx, x0', x1', x2', x3'⟩ := RX5
    obtain ⟨lo, o0', o1', o2', o3'⟩ := RO5
    cases hz : eq4 o0 o1 o2 o3 0 0 0 0
    · go_wp2_with fail
      refine (sqrt_any _ _ _ _ ha _ G5).mono ?_
      rintro e w6 ⟨r0, r1, r2, r3, is, rfl, HS1, HX⟩
      have HXa := HX.alloc (.cells #[.int .u64 r0, .int .u64 r1, .int .u64 r2, .int .u64 r3] 24)
      have HE6 : Hid (Ext w (w6.alloc (.cells #[.int .u64 r0, .int .u64 r1, .int .u64 r2, .int .u64 r3] 24))) := HE5.out.trans HXa
      have G6 := G5.ext HXa
      clear la a0' a1' a2' a3' lx x0' x1' x2' x3' lo o0' o1' o2' o3'
      obtain ⟨lo, o0', o1', o2', o3'⟩ := RO6.ext HXa
      clear HX HXa G5 HE5 RO6 RA6
      go_wp2_with fail
      clear lo o0' o1' o2' o3'
      generalize w6.alloc (.cells #[.int .u64 r0, .int .u64 r1, .int .u64 r2, .int .u64 r3] 24) = W6 at *
      generalize w6.heap.size = br at *
      refine (sqrt_any _ _ _ _ ho _ G6).mono ?_
      rintro e w7 ⟨s0, s1, s2, s3, no, rfl, HS2, HX⟩
      have HXa := HX.alloc (.cells #[.int .u64 s0, .int .u64 s1, .int .u64 s2, .int .u64 s3] 24)
      have HE7 : Hid (Ext w (w7.alloc (.cells #[.int .u64 s0, .int .u64 s1, .int .u64 s2, .int .u64 s3] 24))) := HE6.out.trans HXa
      have G7 := G6.ext HXa
      have hisno := sq_one HO.out hz HS1.out HS2.out
      subst hisno
      clear HX HXa G6 HE6 HS1 HS2
      have hnn : ((!no) == no) = false := by cases no <;> rfl
      have hnm : ((!no) != no) = true := by cases no <;> rfl
      cases no
      · go_wp2_with fail
        refine (awake_any _ G7).mono ?_
        rintro e w8 ⟨rfl, HX⟩
        have hE : Ext w w8 := HE7.out.trans HX
        go_wp2
        go_ret
        exact ⟨rfl, hE⟩
      · go_wp2_with fail
        refine (awake_any _ G7).mono ?_
        rintro e w8 ⟨rfl, HX⟩
        have hE : Ext w w8 := HE7.out.trans HX
        go_wp2
        go_ret
        exact ⟨rfl, hE⟩
    · have hxz := sq_zero HO.out HOR.out hz
      go_wp2_with fail
      refine (awake_any _ G5).mono ?_
      rintro e w6 ⟨rfl, HX⟩
      have hE : Ext w w6 := HE5.out.trans HX
      clear la a0' a1' a2' a3' lx x0' x1' x2' x3' lo o0' o1' o2' o3'
      go_wp2
      go_ret
      exact ⟨rfl, hE⟩
end Go.Proofs.YtmpcoohinppdhaaDoor
