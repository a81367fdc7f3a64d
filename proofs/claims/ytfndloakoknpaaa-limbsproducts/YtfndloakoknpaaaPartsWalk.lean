/-
  The walk of the statement LimbsParts: true, whatever the three numbers; nothing old is turned.
-/
import Derived.Test.YtfndloakoknpaaaSumsWalk
namespace Go.Proofs.Ytfndloakoknpaaa
open Go.RowKit
theorem Row.three (w : World) (x0 x1 x2 x3 y0 y1 y2 y3 z0 z1 z2 z3 : Int) :
    Row (((w.alloc (.cells #[.int .u64 x0, .int .u64 x1, .int .u64 x2, .int .u64 x3] 24)).alloc (.cells #[.int .u64 y0, .int .u64 y1, .int .u64 y2, .int .u64 y3] 24)).alloc (.cells #[.int .u64 z0, .int .u64 z1, .int .u64 z2, .int .u64 z3] 24)) w.heap.size x0 x1 x2 x3 ∧ Row (((w.alloc (.cells #[.int .u64 x0, .int .u64 x1, .int .u64 x2, .int .u64 x3] 24)).alloc (.cells #[.int .u64 y0, .int .u64 y1, .int .u64 y2, .int .u64 y3] 24)).alloc (.cells #[.int .u64 z0, .int .u64 z1, .int .u64 z2, .int .u64 z3] 24)) (w.heap.size + 1) y0 y1 y2 y3 ∧ Row (((w.alloc (.cells #[.int .u64 x0, .int .u64 x1, .int .u64 x2, .int .u64 x3] 24)).alloc (.cells #[.int .u64 y0, .int .u64 y1, .int .u64 y2, .int .u64 y3] 24)).alloc (.cells #[.int .u64 z0, .int .u64 z1, .int .u64 z2, .int .u64 z3] 24)) (w.heap.size + 1 + 1) z0 z1 z2 z3 := by
  have h := Row.two w x0 x1 x2 x3 y0 y1 y2 y3
  have k := Row.new ((w.alloc (.cells #[.int .u64 x0, .int .u64 x1, .int .u64 x2, .int .u64 x3] 24)).alloc (.cells #[.int .u64 y0, .int .u64 y1, .int .u64 y2, .int .u64 y3] 24)) z0 z1 z2 z3
  rw [show ((w.alloc (.cells #[.int .u64 x0, .int .u64 x1, .int .u64 x2, .int .u64 x3] 24)).alloc (.cells #[.int .u64 y0, .int .u64 y1, .int .u64 y2, .int .u64 y3] 24)).heap.size = w.heap.size + 1 + 1 from by simp] at k
  exact ⟨h.1.ext ((Ext.refl _).alloc _), h.2.ext ((Ext.refl _).alloc _), k⟩
/-- The two halves of a product are one. -/
theorem mulP_one {a b x0 x1 x2 x3 y0 y1 y2 y3 u0 u1 u2 u3 v0 v1 v2 v3 : Int} (h : Lim4 x0 x1 x2 x3 ∧ Lim4 y0 y1 y2 y3 ∧ MulP a b (val x0 x1 x2 x3) (val y0 y1 y2 y3)) (k : Lim4 u0 u1 u2 u3 ∧ Lim4 v0 v1 v2 v3 ∧ MulP b a (val u0 u1 u2 u3) (val v0 v1 v2 v3)) :
    (u0 = x0 ∧ u1 = x1 ∧ u2 = x2 ∧ u3 = x3) ∧ (v0 = y0 ∧ v1 = y1 ∧ v2 = y2 ∧ v3 = y3) := by
  obtain ⟨hx, hy, hm⟩ := h
  obtain ⟨hu, hv, km⟩ := k
  have bx := val_bd hx
  have bu := val_bd hu
  unfold MulP at hm km
  rw [Int.mul_comm b a, ← hm] at km
  have e : val u0 u1 u2 u3 = val x0 x1 x2 x3 ∧ val v0 v1 v2 v3 = val y0 y1 y2 y3 := by
    unfold B256 at *
    omega
  exact ⟨val_inj hu hx e.1, val_inj hv hy e.2⟩
/-- A product by a sum, without a carry out of the sum. -/
theorem parts_math {a b c s x y p q d e l h : Int} (hs : s = b + c) (h1 : MulP a b x y) (h2 : MulP a s p q) (h3 : MulP a c d e) (bp : 0 ≤ p ∧ p < B256) (bq : 0 ≤ q ∧ q < B256) (bl : 0 ≤ l ∧ l < B256) (bh : 0 ≤ h ∧ h < B256)
    (_hy : 0 ≤ y) (_he : 0 ≤ e) {k o : Bool} (h4 : l + (if k then B256 else 0) = x + d) (h5 : h + (if o then B256 else 0) = y + e) : l = p ∧ o = false ∧ h + (if k then 1 else 0) = q := by
  unfold MulP at *
  rw [hs, Int.mul_add, ← h1, ← h3] at h2
  unfold B256 at *
  cases k <;> cases o <;> simp at h4 h5 ⊢ <;> omega
theorem parts_low {x0 x1 x2 x3 y0 y1 y2 y3 d0 d1 d2 d3 e0 e1 e2 e3 a0 a1 a2 a3 b0 b1 b2 b3 c0 c1 c2 c3 s0 s1 s2 s3 p0 p1 p2 p3 q0 q1 q2 q3 l0 l1 l2 l3 h0 h1 h2 h3 : Int} {k o : Bool}
    (hs : AddP b0 b1 b2 b3 c0 c1 c2 c3 s0 s1 s2 s3 false)
    (m1 : Lim4 x0 x1 x2 x3 ∧ Lim4 y0 y1 y2 y3 ∧ MulP (val a0 a1 a2 a3) (val b0 b1 b2 b3) (val x0 x1 x2 x3) (val y0 y1 y2 y3))
    (m2 : Lim4 p0 p1 p2 p3 ∧ Lim4 q0 q1 q2 q3 ∧ MulP (val a0 a1 a2 a3) (val s0 s1 s2 s3) (val p0 p1 p2 p3) (val q0 q1 q2 q3))
    (m3 : Lim4 d0 d1 d2 d3 ∧ Lim4 e0 e1 e2 e3 ∧ MulP (val a0 a1 a2 a3) (val c0 c1 c2 c3) (val d0 d1 d2 d3) (val e0 e1 e2 e3))
    (hl : AddP x0 x1 x2 x3 d0 d1 d2 d3 l0 l1 l2 l3 k) (hh : AddP y0 y1 y2 y3 e0 e1 e2 e3 h0 h1 h2 h3 o) :
    (l0 = p0 ∧ l1 = p1 ∧ l2 = p2 ∧ l3 = p3) ∧ o = false ∧ val h0 h1 h2 h3 + (if k then 1 else 0) = val q0 q1 q2 q3 := by
  have hs2 : val s0 s1 s2 s3 = val b0 b1 b2 b3 + val c0 c1 c2 c3 := by have := hs.2; simp at this; exact this
  have g := parts_math hs2 m1.2.2 m2.2.2 m3.2.2 (val_bd m2.1) (val_bd m2.2.1) (val_bd hl.1) (val_bd hh.1) (val_bd m1.2.1).1 (val_bd m3.2.1).1 hl.2 hh.2
  exact ⟨val_inj hl.1 m2.1 g.1, g.2⟩
theorem parts_high {h0 h1 h2 h3 q0 q1 q2 q3 g0 g1 g2 g3 : Int} {o : Bool} (lq : Lim4 q0 q1 q2 q3) (h : val h0 h1 h2 h3 + 1 = val q0 q1 q2 q3) (k : AddP h0 h1 h2 h3 1 0 0 0 g0 g1 g2 g3 o) : (g0 = q0 ∧ g1 = q1 ∧ g2 = q2 ∧ g3 = q3) ∧ o = false := by
  have e := k.2
  have bq := val_bd lq
  have bg := val_bd k.1
  have e1 : val 1 0 0 0 = 1 := by decide
  rw [e1] at e
  have hv : val g0 g1 g2 g3 = val q0 q1 q2 q3 ∧ o = false := by
    unfold B256 at *
    cases o <;> simp at e ⊢ <;> omega
  exact ⟨val_inj k.1 lq hv.1, hv.2⟩
attribute [local go_sem] run_eq4
set_option maxHeartbeats 2000000 in
theorem parts_any (a0 a1 a2 a3 b0 b1 b2 b3 c0 c1 c2 c3 : Int) (ha : Lim4 a0 a1 a2 a3) (hb : Lim4 b0 b1 b2 b3) (hc : Lim4 c0 c1 c2 c3) (w : World) :
    Calls Try.prog 7 #[.agg #[.int .u64 a0, .int .u64 a1, .int .u64 a2, .int .u64 a3], .agg #[.int .u64 b0, .int .u64 b1, .int .u64 b2, .int .u64 b3], .agg #[.int .u64 c0, .int .u64 c1, .int .u64 c2, .int .u64 c3]] w fun e w' => e = .returned (.bool true) ∧ Ext w w' := by
  have R0 := Row.three w a0 a1 a2 a3 b0 b1 b2 b3 c0 c1 c2 c3
  have HE0 : Hid (Ext w (((w.alloc (.cells #[.int .u64 a0, .int .u64 a1, .int .u64 a2, .int .u64 a3] 24)).alloc (.cells #[.int .u64 b0, .int .u64 b1, .int .u64 b2, .int .u64 b3] 24)).alloc (.cells #[.int .u64 c0, .int .u64 c1, .int .u64 c2, .int .u64 c3] 24))) := (((Ext.refl _).alloc _).alloc _).alloc _
  go_enter Try.func7, Try.ntmps7
  go_wp2_with fail
  refine (mul_any _ _ _ _ _ _ _ _ ha hb _).mono ?_
  rintro e w1 ⟨x0, x1, x2, x3, y0, y1, y2, y3, rfl, HM1, HX⟩
  have RA := R0.1.ext HX
  have RB := R0.2.1.ext HX
  have RC := R0.2.2.ext HX
  clear R0
  have HEw1 : Hid (Ext w w1) := (HE0.out).trans HX
  clear HX HE0
  generalize w.heap.size + 1 + 1 = bc at *
  generalize w.heap.size + 1 = bb at *
  generalize w.heap.size = ba at *
  obtain ⟨zRA, xRA0, xRA1, xRA2, xRA3⟩ := RA
  have RA : Row w1 ba a0 a1 a2 a3 := ⟨zRA, xRA0, xRA1, xRA2, xRA3⟩
  obtain ⟨zRB, xRB0, xRB1, xRB2, xRB3⟩ := RB
  have RB : Row w1 bb b0 b1 b2 b3 := ⟨zRB, xRB0, xRB1, xRB2, xRB3⟩
  go_wp2_with fail
  refine (mul_any _ _ _ _ _ _ _ _ hb ha _).mono ?_
  rintro e w2 ⟨u0, u1, u2, u3, v0, v1, v2, v3, rfl, HM2, HX⟩
  obtain ⟨⟨rfl, rfl, rfl, rfl⟩, ⟨rfl, rfl, rfl, rfl⟩⟩ := mulP_one HM2.out HM1.out
  clear HM2
  have HEw2 : Hid (Ext w w2) := (((HEw1.out.alloc _).alloc _)).trans HX
  replace RA := RA.ext (((((Ext.refl _).alloc _).alloc _)).trans HX)
  replace RB := RB.ext (((((Ext.refl _).alloc _).alloc _)).trans HX)
  replace RC := RC.ext (((((Ext.refl _).alloc _).alloc _)).trans HX)
  have Rb7 := (Row.two w1 x0 x1 x2 x3 y0 y1 y2 y3).1.ext HX
  have Rb8 := (Row.two w1 x0 x1 x2 x3 y0 y1 y2 y3).2.ext HX
  clear zRA xRA0 xRA1 xRA2 xRA3 zRB xRB0 xRB1 xRB2 xRB3
  clear HX HEw1
  generalize w1.heap.size + 1 = b8 at *
  generalize w1.heap.size = b7 at *
  have qx : eq4 x0 x1 x2 x3 x0 x1 x2 x3 = true := by simp [eq4]
  have qy : eq4 y0 y1 y2 y3 y0 y1 y2 y3 = true := by simp [eq4]
  obtain ⟨zRb7, xRb70, xRb71, xRb72, xRb73⟩ := Rb7
  have Rb7 : Row w2 b7 x0 x1 x2 x3 := ⟨zRb7, xRb70, xRb71, xRb72, xRb73⟩
  obtain ⟨zRb8, xRb80, xRb81, xRb82, xRb83⟩ := Rb8
  have Rb8 : Row w2 b8 y0 y1 y2 y3 := ⟨zRb8, xRb80, xRb81, xRb82, xRb83⟩
  obtain ⟨zRB, xRB0, xRB1, xRB2, xRB3⟩ := RB
  have RB : Row w2 bb b0 b1 b2 b3 := ⟨zRB, xRB0, xRB1, xRB2, xRB3⟩
  obtain ⟨zRC, xRC0, xRC1, xRC2, xRC3⟩ := RC
  have RC : Row w2 bc c0 c1 c2 c3 := ⟨zRC, xRC0, xRC1, xRC2, xRC3⟩
  go_wp2_with fail
  refine (add_any _ _ _ _ _ _ _ _ hb hc _).mono ?_
  rintro e w3 ⟨s0, s1, s2, s3, cy, rfl, HS, HX⟩
  clear qx qy
  have HEw3 : Hid (Ext w w3) := (((HEw2.out.alloc _).alloc _)).trans HX
  replace RA := RA.ext (((((Ext.refl _).alloc _).alloc _)).trans HX)
  replace RB := RB.ext (((((Ext.refl _).alloc _).alloc _)).trans HX)
  replace RC := RC.ext (((((Ext.refl _).alloc _).alloc _)).trans HX)
  replace Rb7 := Rb7.ext (((((Ext.refl _).alloc _).alloc _)).trans HX)
  replace Rb8 := Rb8.ext (((((Ext.refl _).alloc _).alloc _)).trans HX)
  have Rb9 := (Row.two w2 x0 x1 x2 x3 y0 y1 y2 y3).1.ext HX
  have Rb10 := (Row.two w2 x0 x1 x2 x3 y0 y1 y2 y3).2.ext HX
  clear zRb7 xRb70 xRb71 xRb72 xRb73 zRb8 xRb80 xRb81 xRb82 xRb83 zRB xRB0 xRB1 xRB2 xRB3 zRC xRC0 xRC1 xRC2 xRC3
  clear HX HEw2
  generalize w2.heap.size + 1 = b10 at *
  generalize w2.heap.size = b9 at *
  clear Rb9
  clear Rb10
  clear RB
  cases cy
  case true =>
    go_wp2_with fail
    refine (long_any _).mono ?_
    rintro e w4 ⟨rfl, HX⟩
    have HEw4 : Hid (Ext w w4) := ((HEw3.out.alloc _)).trans HX
    replace RA := RA.ext ((((Ext.refl _).alloc _)).trans HX)
    replace RC := RC.ext ((((Ext.refl _).alloc _)).trans HX)
    replace Rb7 := Rb7.ext ((((Ext.refl _).alloc _)).trans HX)
    replace Rb8 := Rb8.ext ((((Ext.refl _).alloc _)).trans HX)
    have Rb11 := (Row.new w3 s0 s1 s2 s3).ext HX
    clear HX HEw3
    generalize w3.heap.size = b11 at *
    go_wp2_with fail
    refine (awake_any _).mono ?_
    rintro e w5 ⟨rfl, HX⟩
    have HEw5 : Hid (Ext w w5) := (HEw4.out).trans HX
    replace RA := RA.ext (((Ext.refl _)).trans HX)
    replace RC := RC.ext (((Ext.refl _)).trans HX)
    replace Rb7 := Rb7.ext (((Ext.refl _)).trans HX)
    replace Rb8 := Rb8.ext (((Ext.refl _)).trans HX)
    replace Rb11 := Rb11.ext (((Ext.refl _)).trans HX)
    clear HX HEw4
    go_wp2
    go_ret
    exact ⟨rfl, HEw5.out⟩
  obtain ⟨zRA, xRA0, xRA1, xRA2, xRA3⟩ := RA
  have RA : Row w3 ba a0 a1 a2 a3 := ⟨zRA, xRA0, xRA1, xRA2, xRA3⟩
  go_wp2_with fail
  refine (mul_any _ _ _ _ _ _ _ _ ha HS.out.1 _).mono ?_
  rintro e w4 ⟨p0, p1, p2, p3, q0, q1, q2, q3, rfl, HM2, HX⟩
  have HEw4 : Hid (Ext w w4) := ((HEw3.out.alloc _)).trans HX
  replace RA := RA.ext ((((Ext.refl _).alloc _)).trans HX)
  replace RC := RC.ext ((((Ext.refl _).alloc _)).trans HX)
  replace Rb7 := Rb7.ext ((((Ext.refl _).alloc _)).trans HX)
  replace Rb8 := Rb8.ext ((((Ext.refl _).alloc _)).trans HX)
  have Rb11 := (Row.new w3 s0 s1 s2 s3).ext HX
  clear zRA xRA0 xRA1 xRA2 xRA3
  clear HX HEw3
  generalize w3.heap.size = b11 at *
  clear Rb11
  obtain ⟨zRA, xRA0, xRA1, xRA2, xRA3⟩ := RA
  have RA : Row w4 ba a0 a1 a2 a3 := ⟨zRA, xRA0, xRA1, xRA2, xRA3⟩
  obtain ⟨zRC, xRC0, xRC1, xRC2, xRC3⟩ := RC
  have RC : Row w4 bc c0 c1 c2 c3 := ⟨zRC, xRC0, xRC1, xRC2, xRC3⟩
  go_wp2_with fail
  refine (mul_any _ _ _ _ _ _ _ _ ha hc _).mono ?_
  rintro e w5 ⟨d0, d1, d2, d3, e0, e1, e2, e3, rfl, HM3, HX⟩
  have HEw5 : Hid (Ext w w5) := (((HEw4.out.alloc _).alloc _)).trans HX
  replace RA := RA.ext (((((Ext.refl _).alloc _).alloc _)).trans HX)
  replace RC := RC.ext (((((Ext.refl _).alloc _).alloc _)).trans HX)
  replace Rb7 := Rb7.ext (((((Ext.refl _).alloc _).alloc _)).trans HX)
  replace Rb8 := Rb8.ext (((((Ext.refl _).alloc _).alloc _)).trans HX)
  have Rb13 := (Row.two w4 p0 p1 p2 p3 q0 q1 q2 q3).1.ext HX
  have Rb14 := (Row.two w4 p0 p1 p2 p3 q0 q1 q2 q3).2.ext HX
  clear zRA xRA0 xRA1 xRA2 xRA3 zRC xRC0 xRC1 xRC2 xRC3
  clear HX HEw4
  generalize w4.heap.size + 1 = b14 at *
  generalize w4.heap.size = b13 at *
  clear RA
  clear RC
  obtain ⟨zRb7, xRb70, xRb71, xRb72, xRb73⟩ := Rb7
  have Rb7 : Row w5 b7 x0 x1 x2 x3 := ⟨zRb7, xRb70, xRb71, xRb72, xRb73⟩
  go_wp2_with fail
  refine (add_any _ _ _ _ _ _ _ _ HM1.out.1 HM3.out.1 _).mono ?_
  rintro e w6 ⟨l0, l1, l2, l3, k, rfl, HL, HX⟩
  have HEw6 : Hid (Ext w w6) := (((HEw5.out.alloc _).alloc _)).trans HX
  replace Rb7 := Rb7.ext (((((Ext.refl _).alloc _).alloc _)).trans HX)
  replace Rb8 := Rb8.ext (((((Ext.refl _).alloc _).alloc _)).trans HX)
  replace Rb13 := Rb13.ext (((((Ext.refl _).alloc _).alloc _)).trans HX)
  replace Rb14 := Rb14.ext (((((Ext.refl _).alloc _).alloc _)).trans HX)
  have Rb15 := (Row.two w5 d0 d1 d2 d3 e0 e1 e2 e3).1.ext HX
  have Rb16 := (Row.two w5 d0 d1 d2 d3 e0 e1 e2 e3).2.ext HX
  clear zRb7 xRb70 xRb71 xRb72 xRb73
  clear HX HEw5
  generalize w5.heap.size + 1 = b16 at *
  generalize w5.heap.size = b15 at *
  clear Rb7
  clear Rb15
  obtain ⟨zRb8, xRb80, xRb81, xRb82, xRb83⟩ := Rb8
  have Rb8 : Row w6 b8 y0 y1 y2 y3 := ⟨zRb8, xRb80, xRb81, xRb82, xRb83⟩
  obtain ⟨zRb16, xRb160, xRb161, xRb162, xRb163⟩ := Rb16
  have Rb16 : Row w6 b16 e0 e1 e2 e3 := ⟨zRb16, xRb160, xRb161, xRb162, xRb163⟩
  go_wp2_with fail
  refine (add_any _ _ _ _ _ _ _ _ HM1.out.2.1 HM3.out.2.1 _).mono ?_
  rintro e w7 ⟨h0, h1, h2, h3, o, rfl, HH, HX⟩
  obtain ⟨⟨rfl, rfl, rfl, rfl⟩, rfl, hk0⟩ := parts_low HS.out HM1.out HM2.out HM3.out HL.out HH.out
  have HK : Hid (val h0 h1 h2 h3 + (if k then 1 else 0) = val q0 q1 q2 q3) := hk0
  have HQ : Hid (Lim4 q0 q1 q2 q3) := HM2.out.2.1
  have HJ : Hid (Lim4 h0 h1 h2 h3) := HH.out.1
  clear hk0 HS HM1 HM2 HM3 HL HH
  have HEw7 : Hid (Ext w w7) := ((HEw6.out.alloc _)).trans HX
  replace Rb8 := Rb8.ext ((((Ext.refl _).alloc _)).trans HX)
  replace Rb13 := Rb13.ext ((((Ext.refl _).alloc _)).trans HX)
  replace Rb14 := Rb14.ext ((((Ext.refl _).alloc _)).trans HX)
  replace Rb16 := Rb16.ext ((((Ext.refl _).alloc _)).trans HX)
  have Rb17 := (Row.new w6 l0 l1 l2 l3).ext HX
  clear zRb8 xRb80 xRb81 xRb82 xRb83 zRb16 xRb160 xRb161 xRb162 xRb163
  clear HX HEw6
  generalize w6.heap.size = b17 at *
  clear Rb8
  clear Rb16
  have ql : eq4 l0 l1 l2 l3 l0 l1 l2 l3 = true := by simp [eq4]
  have qq : eq4 q0 q1 q2 q3 q0 q1 q2 q3 = true := by simp [eq4]
  cases k
  case false =>
    have hk : val h0 h1 h2 h3 = val q0 q1 q2 q3 := by have := HK.out; simpa using this
    obtain ⟨rfl, rfl, rfl, rfl⟩ := val_inj HJ.out HQ.out hk
    clear hk HK HQ HJ
    obtain ⟨zRb17, xRb170, xRb171, xRb172, xRb173⟩ := Rb17
    have Rb17 : Row w7 b17 l0 l1 l2 l3 := ⟨zRb17, xRb170, xRb171, xRb172, xRb173⟩
    obtain ⟨zRb13, xRb130, xRb131, xRb132, xRb133⟩ := Rb13
    have Rb13 : Row w7 b13 l0 l1 l2 l3 := ⟨zRb13, xRb130, xRb131, xRb132, xRb133⟩
    obtain ⟨zRb14, xRb140, xRb141, xRb142, xRb143⟩ := Rb14
    have Rb14 : Row w7 b14 h0 h1 h2 h3 := ⟨zRb14, xRb140, xRb141, xRb142, xRb143⟩
    go_wp2_with fail
    refine (long_any _).mono ?_
    rintro e w8 ⟨rfl, HX⟩
    have HEw8 : Hid (Ext w w8) := ((HEw7.out.alloc _)).trans HX
    replace Rb13 := Rb13.ext ((((Ext.refl _).alloc _)).trans HX)
    replace Rb14 := Rb14.ext ((((Ext.refl _).alloc _)).trans HX)
    replace Rb17 := Rb17.ext ((((Ext.refl _).alloc _)).trans HX)
    have Rb19 := (Row.new w7 h0 h1 h2 h3).ext HX
    clear zRb17 xRb170 xRb171 xRb172 xRb173 zRb13 xRb130 xRb131 xRb132 xRb133 zRb14 xRb140 xRb141 xRb142 xRb143
    clear HX HEw7
    generalize w7.heap.size = b19 at *
    go_wp2_with fail
    refine (awake_any _).mono ?_
    rintro e w9 ⟨rfl, HX⟩
    have HEw9 : Hid (Ext w w9) := (HEw8.out).trans HX
    replace Rb13 := Rb13.ext (((Ext.refl _)).trans HX)
    replace Rb14 := Rb14.ext (((Ext.refl _)).trans HX)
    replace Rb17 := Rb17.ext (((Ext.refl _)).trans HX)
    replace Rb19 := Rb19.ext (((Ext.refl _)).trans HX)
    clear HX HEw8
    go_wp2
    go_ret
    exact ⟨rfl, HEw9.out⟩
  have hk : val h0 h1 h2 h3 + 1 = val q0 q1 q2 q3 := by have := HK.out; simpa using this
  have HK1 : Hid (val h0 h1 h2 h3 + 1 = val q0 q1 q2 q3) := hk
  clear hk HK
  go_wp2_with fail
  refine (add_any _ _ _ _ _ _ _ _ HJ.out ⟨lim_of _ rfl, lim_of _ rfl, lim_of _ rfl, lim_of _ rfl⟩ _).mono ?_
  rintro e w8 ⟨g0, g1, g2, g3, o, rfl, HG, HX⟩
  obtain ⟨⟨rfl, rfl, rfl, rfl⟩, rfl⟩ := parts_high HQ.out HK1.out HG.out
  have f0 := (HX.cells.2 w7.heap.size 0 (by simp)).trans (World.frozen?_alloc_at _ _ _ _ rfl)
  have f1 := (HX.cells.2 w7.heap.size 1 (by simp)).trans (World.frozen?_alloc_at _ _ _ _ rfl)
  have f2 := (HX.cells.2 w7.heap.size 2 (by simp)).trans (World.frozen?_alloc_at _ _ _ _ rfl)
  have f3 := (HX.cells.2 w7.heap.size 3 (by simp)).trans (World.frozen?_alloc_at _ _ _ _ rfl)
  have hbs : w.heap.size ≤ w7.heap.size := HEw7.out.size
  have l13 := Rb13.1
  have l14 := Rb14.1
  have l17 := Rb17.1
  clear HG HK1 HQ HJ
  have HEw8 : Hid (Ext w w8) := ((HEw7.out.alloc _)).trans HX
  replace Rb13 := Rb13.ext ((((Ext.refl _).alloc _)).trans HX)
  replace Rb14 := Rb14.ext ((((Ext.refl _).alloc _)).trans HX)
  replace Rb17 := Rb17.ext ((((Ext.refl _).alloc _)).trans HX)
  have Rb19 := (Row.new w7 h0 h1 h2 h3).ext HX
  clear HX HEw7
  generalize w7.heap.size = b19 at *
  have HB : Hid (w.heap.size ≤ b19) := hbs
  clear hbs
  obtain ⟨zRb17, xRb170, xRb171, xRb172, xRb173⟩ := Rb17
  have Rb17 : Row w8 b17 l0 l1 l2 l3 := ⟨zRb17, xRb170, xRb171, xRb172, xRb173⟩
  obtain ⟨zRb13, xRb130, xRb131, xRb132, xRb133⟩ := Rb13
  have Rb13 : Row w8 b13 l0 l1 l2 l3 := ⟨zRb13, xRb130, xRb131, xRb132, xRb133⟩
  obtain ⟨zRb14, xRb140, xRb141, xRb142, xRb143⟩ := Rb14
  have Rb14 : Row w8 b14 g0 g1 g2 g3 := ⟨zRb14, xRb140, xRb141, xRb142, xRb143⟩
  obtain ⟨zRb19, xRb190, xRb191, xRb192, xRb193⟩ := Rb19
  have Rb19 : Row w8 b19 h0 h1 h2 h3 := ⟨zRb19, xRb190, xRb191, xRb192, xRb193⟩
  go_wp2_with fail
  refine (long_any _).mono ?_
  rintro e w9 ⟨rfl, HX⟩
  have HEw9 : Hid (Ext w w9) := Ext.trans (Ext.setCell (Ext.setCell (Ext.setCell (Ext.setCell HEw8.out (p := ⟨b19, 0, none⟩) HB.out _) (p := ⟨b19, 1, none⟩) HB.out _) (p := ⟨b19, 2, none⟩) HB.out _) (p := ⟨b19, 3, none⟩) HB.out _) HX
  clear HX HEw8 f0 f1 f2 f3 l13 l14 l17 zRb17 xRb170 xRb171 xRb172 xRb173 zRb13 xRb130 xRb131 xRb132 xRb133 zRb14 xRb140 xRb141 xRb142 xRb143 zRb19 xRb190 xRb191 xRb192 xRb193
  go_wp2_with fail
  refine (awake_any _).mono ?_
  rintro e w10 ⟨rfl, HX⟩
  have HEw10 : Hid (Ext w w10) := HEw9.out.trans HX
  clear HX HEw9
  go_wp2
  go_ret
  exact ⟨rfl, HEw10.out⟩
end Go.Proofs.Ytfndloakoknpaaa
