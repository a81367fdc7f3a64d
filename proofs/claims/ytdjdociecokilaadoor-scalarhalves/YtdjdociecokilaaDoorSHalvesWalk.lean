/-
  ScalarHalves, walked: it answers true; nothing old is turned.
-/
import Derived.Test.YtdjdociecokilaaDoorSFn
import Derived.Test.YtdjdociecokilaaDoorBytesBack
namespace Go.Proofs.YtdjdociecokilaaDoor
open Go.RowKit
theorem keep4h {W0 wx : World} {b c d f : Nat} {x0 x1 x2 x3 y0 y1 y2 y3 z0 z1 z2 z3 u0 u1 u2 u3 : Int} (hE : Ext W0 wx) (h : Row W0 b x0 x1 x2 x3) (k : Row W0 c y0 y1 y2 y3) (l : Row W0 d z0 z1 z2 z3) (m : Row W0 f u0 u1 u2 u3) : Ext W0 wx ∧ wx.cell? ⟨b, 0, none⟩ = some (.int .u64 x0) ∧ wx.cell? ⟨b, 1, none⟩ = some (.int .u64 x1) ∧ wx.cell? ⟨b, 2, none⟩ = some (.int .u64 x2) ∧ wx.cell? ⟨b, 3, none⟩ = some (.int .u64 x3) ∧ wx.cell? ⟨c, 0, none⟩ = some (.int .u64 y0) ∧ wx.cell? ⟨c, 1, none⟩ = some (.int .u64 y1) ∧ wx.cell? ⟨c, 2, none⟩ = some (.int .u64 y2) ∧ wx.cell? ⟨c, 3, none⟩ = some (.int .u64 y3) ∧ wx.cell? ⟨d, 0, none⟩ = some (.int .u64 z0) ∧ wx.cell? ⟨d, 1, none⟩ = some (.int .u64 z1) ∧ wx.cell? ⟨d, 2, none⟩ = some (.int .u64 z2) ∧ wx.cell? ⟨d, 3, none⟩ = some (.int .u64 z3) ∧ wx.cell? ⟨f, 0, none⟩ = some (.int .u64 u0) ∧ wx.cell? ⟨f, 1, none⟩ = some (.int .u64 u1) ∧ wx.cell? ⟨f, 2, none⟩ = some (.int .u64 u2) ∧ wx.cell? ⟨f, 3, none⟩ = some (.int .u64 u3) :=
  ⟨hE, later hE h.2.1, later hE h.2.2.1, later hE h.2.2.2.1, later hE h.2.2.2.2, later hE k.2.1, later hE k.2.2.1, later hE k.2.2.2.1, later hE k.2.2.2.2, later hE l.2.1, later hE l.2.2.1, later hE l.2.2.2.1, later hE l.2.2.2.2, later hE m.2.1, later hE m.2.2.1, later hE m.2.2.2.1, later hE m.2.2.2.2⟩
theorem bs_size (B : Nat → Int) : (bs B).size = 32 := rfl
theorem cat_left (a b : ByteArray) (ha : a.size = 32) : (a ++ b).extract 0 32 = a := by
  have h := ByteArray.extract_append_eq_left (a := a) (b := b) (i := 32) ha.symm
  exact h
theorem cat_right (a b : ByteArray) (ha : a.size = 32) (hb : b.size = 32) : (a ++ b).extract 32 64 = b := by
  have h := ByteArray.extract_append_eq_right (a := a) (b := b) (i := 32) (j := 64) ha.symm (by omega)
  exact h
theorem num_bs {a0 a1 a2 a3 : Int} (ha : Lim4 a0 a1 a2 a3) : num (bs (byteAt a0 a1 a2 a3)) = val a0 a1 a2 a3 := by
  obtain ⟨e0, e1, e2, e3⟩ := frW_back ha
  unfold num
  rw [e0, e1, e2, e3]
theorem sub0q {r0 r1 r2 r3 : Int} {c : Bool} (h : SubP 0 0 0 0 17562291160714782033 13611842547513532036 18446744073709551615 18446744069414584320 r0 r1 r2 r3 c) : r0 = 884452912994769583 ∧ r1 = 4834901526196019579 ∧ r2 = 0 ∧ r3 = 4294967295 := by
  have e1 : val 0 0 0 0 - val 17562291160714782033 13611842547513532036 18446744073709551615 18446744069414584320 + B256 = val 884452912994769583 4834901526196019579 0 4294967295 := by decide
  have e2 : val 0 0 0 0 - val 17562291160714782033 13611842547513532036 18446744073709551615 18446744069414584320 < 0 := by decide
  have hb := val_bd h.1
  have he := h.2
  refine val_inj h.1 ⟨lim_of _ rfl, lim_of _ rfl, lim_of _ rfl, lim_of _ rfl⟩ ?_
  cases c
  · simp at he
    omega
  · simp at he
    omega
theorem c_sub0q (w : World) : Calls Tryd.prog 25 #[.agg #[.int .u64 0, .int .u64 0, .int .u64 0, .int .u64 0], .agg #[.int .u64 17562291160714782033, .int .u64 13611842547513532036, .int .u64 18446744073709551615, .int .u64 18446744069414584320]] w fun e w' => ∃ c : Bool, e = .returned (.tuple #[.agg #[.int .u64 884452912994769583, .int .u64 4834901526196019579, .int .u64 0, .int .u64 4294967295], .bool c]) ∧ Ext w w' :=
  (refSub_raw 0 0 0 0 _ _ _ _ ⟨lim_of _ rfl, lim_of _ rfl, lim_of _ rfl, lim_of _ rfl⟩ lim_FQ w).mono fun _ _ ⟨r0, r1, r2, r3, c, h1, h2, h3⟩ => by
    obtain ⟨rfl, rfl, rfl, rfl⟩ := sub0q h2.out
    exact ⟨c, h1, h3⟩
theorem p_ok (X : Int) : (X * val 884452912994769583 4834901526196019579 0 4294967295) % FQ = (B256 * X) % FQ := by
  have e : B256 = val 884452912994769583 4834901526196019579 0 4294967295 + FQ * 1 := by decide
  rw [e]
  generalize val 884452912994769583 4834901526196019579 0 4294967295 = p
  refine (emodq_of X ?_).symm
  generalize FQ = q
  grind
attribute [local go_sem] run_eq4
set_option maxHeartbeats 8000000 in
theorem halves_law (a0 a1 a2 a3 b0 b1 b2 b3 : Int) (ha : Lim4 a0 a1 a2 a3) (hb : Lim4 b0 b1 b2 b3) (w : World) (hG : Gl w) :
    Calls Tryd.prog 8 #[.agg #[.int .u64 a0, .int .u64 a1, .int .u64 a2, .int .u64 a3], .agg #[.int .u64 b0, .int .u64 b1, .int .u64 b2, .int .u64 b3]] w fun e w' => e = .returned (.bool true) ∧ Ext w w' := by
  have RT := Row.two w a0 a1 a2 a3 b0 b1 b2 b3
  have Ra := RT.1
  have Rb := RT.2
  have HE0 : Hid (Ext w ((w.alloc (.cells #[.int .u64 a0, .int .u64 a1, .int .u64 a2, .int .u64 a3] 24)).alloc (.cells #[.int .u64 b0, .int .u64 b1, .int .u64 b2, .int .u64 b3] 24))) := ((Ext.refl _).alloc _).alloc _
  have G0 := hG.ext HE0.out
  clear RT hG
  obtain ⟨x0, x1, x2, x3, HX0⟩ := qmod_ex (val b0 b1 b2 b3 + B256 * val a0 a1 a2 a3)
  obtain ⟨m0, m1, m2, m3, HM⟩ := qmod_ex (val a0 a1 a2 a3 * val 884452912994769583 4834901526196019579 0 4294967295)
  obtain ⟨SA, HA⟩ : ∃ S, Hid (bs (byteAt a0 a1 a2 a3) = S) := ⟨_, rfl⟩
  obtain ⟨SB, HB⟩ : ∃ S, Hid (bs (byteAt b0 b1 b2 b3) = S) := ⟨_, rfl⟩
  have sA : SA.size = 32 := by rw [← HA.out]; exact bs_size _
  have sB : SB.size = 32 := by rw [← HB.out]; exact bs_size _
  obtain ⟨S, hS⟩ : ∃ S, SA ++ SB = S := ⟨_, rfl⟩
  have M1 : Hid (∀ wx, Calls Tryd.prog 24 #[.agg #[.int .u64 a0, .int .u64 a1, .int .u64 a2, .int .u64 a3]] wx fun e w' => e = .returned (.string SA) ∧ Ext wx w') := fun wx => HA.out ▸ refBytes_any a0 a1 a2 a3 wx
  have M2 : Hid (∀ wx, Calls Tryd.prog 24 #[.agg #[.int .u64 b0, .int .u64 b1, .int .u64 b2, .int .u64 b3]] wx fun e w' => e = .returned (.string SB) ∧ Ext wx w') := fun wx => HB.out ▸ refBytes_any b0 b1 b2 b3 wx
  have M3 : Hid (∀ wx, Gl wx → Calls Tryd.prog 22 #[.string S] wx fun e w' => e = .returned (.tuple #[.agg #[.int .u64 x0, .int .u64 x1, .int .u64 x2, .int .u64 x3], .int .i64 0]) ∧ Ext wx w') := fun wx h => (swide_any S (by rw [← hS, ByteArray.size_append]; omega) wx h).mono fun _ _ ⟨s0, s1, s2, s3, h1, h2, h3⟩ => by
    obtain ⟨rfl, rfl, rfl, rfl⟩ := h2.out.one HX0.out (by rw [← hS, cat_left _ _ sA, cat_right _ _ sA sB, ← HA.out, ← HB.out, num_bs ha, num_bs hb])
    exact ⟨h1, h3⟩
  have M4 : Hid (∀ wx, Gl wx → Calls Tryd.prog 18 #[.agg #[.int .u64 a0, .int .u64 a1, .int .u64 a2, .int .u64 a3], .agg #[.int .u64 884452912994769583, .int .u64 4834901526196019579, .int .u64 0, .int .u64 4294967295]] wx fun e w' => e = .returned (.agg #[.int .u64 m0, .int .u64 m1, .int .u64 m2, .int .u64 m3]) ∧ Ext wx w') := fun wx h => smul_fn ha ⟨lim_of _ rfl, lim_of _ rfl, lim_of _ rfl, lim_of _ rfl⟩ HM.out rfl wx h
  have M5 : Hid (∀ wx, Gl wx → Calls Tryd.prog 9 #[.agg #[.int .u64 m0, .int .u64 m1, .int .u64 m2, .int .u64 m3], .agg #[.int .u64 b0, .int .u64 b1, .int .u64 b2, .int .u64 b3]] wx fun e w' => e = .returned (.agg #[.int .u64 x0, .int .u64 x1, .int .u64 x2, .int .u64 x3]) ∧ Ext wx w') := fun wx h => sadd_fn HM.out.1 hb HX0.out (by rw [HM.out.2, p_ok, Int.add_emod, Int.emod_emod_of_dvd _ (Int.dvd_refl _), ← Int.add_emod, Int.add_comm]) wx h
  have qx := eq4_self x0 x1 x2 x3
  clear HX0 HM HA HB ha hb
  go_enter Tryd.func8, Tryd.ntmps8
  go_wp2_with fail
  generalize ((w.alloc (.cells #[.int .u64 a0, .int .u64 a1, .int .u64 a2, .int .u64 a3] 24)).alloc (.cells #[.int .u64 b0, .int .u64 b1, .int .u64 b2, .int .u64 b3] 24)) = W0 at *
  generalize w.heap.size + 1 = bb at *
  generalize w.heap.size = ba at *
  go_cut [5, 6] (fun s5 s6 wx => ∃ bk : Nat, s5 = .pointer (some ⟨bk, 0, none⟩) ∧ s6 = .int .i64 0 ∧ Row wx bk x0 x1 x2 x3 ∧ Ext W0 wx)
  case first =>
    have hl0 : W0.heap.size ≤ W0.heap.size := Nat.le_refl _
    have hl1 : W0.heap.size ≤ W0.heap.size + 1 := Nat.le_succ _
    go_region_held3 (fun wx : World => Ext W0 wx ∧ wx.cell? ⟨ba, 0, none⟩ = some (.int .u64 a0) ∧ wx.cell? ⟨ba, 1, none⟩ = some (.int .u64 a1) ∧ wx.cell? ⟨ba, 2, none⟩ = some (.int .u64 a2) ∧ wx.cell? ⟨ba, 3, none⟩ = some (.int .u64 a3) ∧ wx.cell? ⟨bb, 0, none⟩ = some (.int .u64 b0) ∧ wx.cell? ⟨bb, 1, none⟩ = some (.int .u64 b1) ∧ wx.cell? ⟨bb, 2, none⟩ = some (.int .u64 b2) ∧ wx.cell? ⟨bb, 3, none⟩ = some (.int .u64 b3)) ((refine keep2 ?_ Ra Rb; simp (maxDischargeDepth := 30) only [extAlloc, extDrew, Ext.st, Ext.refl, *])) (first | (go_at_call 24; with_reducible refine (M1.out _).mono ?_; rintro e wy ⟨rfl, HX⟩; have hEy : Ext W0 wy := (by refine Ext.trans ?_ HX; simp only [*]); have hz0 : W0.heap.size ≤ wy.heap.size := hEy.size; have hz1 : W0.heap.size ≤ wy.heap.size + 1 := Nat.le_succ_of_le hz0; have htr : ∀ b, b < _ → b < wy.heap.size := (fun b h => Nat.lt_of_lt_of_le h HX.size); have hsz := HX.size; (try simp at hsz); (try have hs1 := Nat.lt_of_succ_le hsz); (try have hs2 := Nat.lt_of_succ_lt (Nat.lt_of_succ_le hsz)); obtain ⟨hcc, hff⟩ := HX.cells; (try simp at hcc); (try simp at hff)) | (go_at_call 24; with_reducible refine (M2.out _).mono ?_; rintro e wy ⟨rfl, HX⟩; have hEy : Ext W0 wy := (by refine Ext.trans ?_ HX; simp only [*]); have hz0 : W0.heap.size ≤ wy.heap.size := hEy.size; have hz1 : W0.heap.size ≤ wy.heap.size + 1 := Nat.le_succ_of_le hz0; have htr : ∀ b, b < _ → b < wy.heap.size := (fun b h => Nat.lt_of_lt_of_le h HX.size); have hsz := HX.size; (try simp at hsz); (try have hs1 := Nat.lt_of_succ_le hsz); (try have hs2 := Nat.lt_of_succ_lt (Nat.lt_of_succ_le hsz)); obtain ⟨hcc, hff⟩ := HX.cells; (try simp at hcc); (try simp at hff)) | (go_at_call 22; with_reducible refine (M3.out _ (G0.ext (by simp only [*]))).mono ?_; rintro e wy ⟨rfl, HX⟩; have hEy : Ext W0 wy := (by refine Ext.trans ?_ HX; simp only [*]); have hz0 : W0.heap.size ≤ wy.heap.size := hEy.size; have hz1 : W0.heap.size ≤ wy.heap.size + 1 := Nat.le_succ_of_le hz0; have htr : ∀ b, b < _ → b < wy.heap.size := (fun b h => Nat.lt_of_lt_of_le h HX.size); have hsz := HX.size; (try simp at hsz); (try have hs1 := Nat.lt_of_succ_le hsz); (try have hs2 := Nat.lt_of_succ_lt (Nat.lt_of_succ_le hsz)); obtain ⟨hcc, hff⟩ := HX.cells; (try simp at hcc); (try simp at hff)))
    all_goals
      go_wp2
      go_meet
      case rel => exact ⟨_, rfl, rfl, ⟨by simp [*], (by first | (go_simp; done) | (go_simp; exact World.cell?_setCell_same' _ _ _ (by go_simp))), (by first | (go_simp; done) | (go_simp; exact World.cell?_setCell_same' _ _ _ (by go_simp))), (by first | (go_simp; done) | (go_simp; exact World.cell?_setCell_same' _ _ _ (by go_simp))), (by first | (go_simp; done) | (go_simp; exact World.cell?_setCell_same' _ _ _ (by go_simp)))⟩, by simp only [*]⟩
  case rest =>
    obtain ⟨bx, rfl, rfl, Rx, HXc⟩ := hcut
    replace Ra := Ra.ext HXc
    replace Rb := Rb.ext HXc
    replace G0 := G0.ext HXc
    replace HE0 : Hid (Ext w wc) := HE0.out.trans HXc
    clear HXc
    go_wp2_with fail
    refine (refOrder_any _).mono ?_
    rintro e w3 ⟨rfl, HX⟩
    replace Ra := Ra.ext HX
    replace Rb := Rb.ext HX
    replace Rx := Rx.ext HX
    replace G0 := G0.ext HX
    have HE3 : Hid (Ext w w3) := HE0.out.trans HX
    clear HX HE0
    go_wp2_with fail
    refine (c_sub0q _).mono ?_
    rintro e w4 ⟨c, rfl, HX⟩
    have HXa := HX.alloc (.cells #[.int .u64 884452912994769583, .int .u64 4834901526196019579, .int .u64 0, .int .u64 4294967295] 24)
    have Rp := Row.new w4 884452912994769583 4834901526196019579 0 4294967295
    replace Ra := Ra.ext HXa
    replace Rb := Rb.ext HXa
    replace Rx := Rx.ext HXa
    replace G0 := G0.ext HXa
    have HE4 : Hid (Ext w (w4.alloc (.cells #[.int .u64 884452912994769583, .int .u64 4834901526196019579, .int .u64 0, .int .u64 4294967295] 24))) := HE3.out.trans HXa
    clear HX HXa HE3
    go_wp2_with fail
    clear W0
    generalize w4.alloc (.cells #[.int .u64 884452912994769583, .int .u64 4834901526196019579, .int .u64 0, .int .u64 4294967295] 24) = W0 at *
    generalize w4.heap.size = bp at *
    go_region_held3 (fun wx : World => Ext W0 wx ∧ wx.cell? ⟨ba, 0, none⟩ = some (.int .u64 a0) ∧ wx.cell? ⟨ba, 1, none⟩ = some (.int .u64 a1) ∧ wx.cell? ⟨ba, 2, none⟩ = some (.int .u64 a2) ∧ wx.cell? ⟨ba, 3, none⟩ = some (.int .u64 a3) ∧ wx.cell? ⟨bb, 0, none⟩ = some (.int .u64 b0) ∧ wx.cell? ⟨bb, 1, none⟩ = some (.int .u64 b1) ∧ wx.cell? ⟨bb, 2, none⟩ = some (.int .u64 b2) ∧ wx.cell? ⟨bb, 3, none⟩ = some (.int .u64 b3) ∧ wx.cell? ⟨bx, 0, none⟩ = some (.int .u64 x0) ∧ wx.cell? ⟨bx, 1, none⟩ = some (.int .u64 x1) ∧ wx.cell? ⟨bx, 2, none⟩ = some (.int .u64 x2) ∧ wx.cell? ⟨bx, 3, none⟩ = some (.int .u64 x3) ∧ wx.cell? ⟨bp, 0, none⟩ = some (.int .u64 884452912994769583) ∧ wx.cell? ⟨bp, 1, none⟩ = some (.int .u64 4834901526196019579) ∧ wx.cell? ⟨bp, 2, none⟩ = some (.int .u64 0) ∧ wx.cell? ⟨bp, 3, none⟩ = some (.int .u64 4294967295)) (first | exact keep4h (Ext.drew (Ext.refl _)) Ra Rb Rx Rp | exact keep4h (by assumption) Ra Rb Rx Rp) (first | (go_at_call 18; with_reducible refine (M4.out _ (G0.ext (by simp only [*]))).mono ?_; rintro e wy ⟨rfl, HX⟩; have hEy : Ext W0 wy := (by refine Ext.trans ?_ HX; simp only [*])) | (go_at_call 9; with_reducible refine (M5.out _ (G0.ext (by simp only [*]))).mono ?_; rintro e wy ⟨rfl, HX⟩; have hEy : Ext W0 wy := (by refine Ext.trans ?_ HX; simp only [*])) | (go_at_call 17; with_reducible refine (awake_any _ (G0.ext (by simp only [*]))).mono ?_; rintro e wy ⟨rfl, HX⟩; have hEy : Ext W0 wy := (by refine Ext.trans ?_ HX; simp only [*])))
    all_goals
      have hE : Ext w wy := HE4.out.trans hEy
      clear hEy qx
      go_wp2
      go_ret
      exact ⟨rfl, hE⟩
end Go.Proofs.YtdjdociecokilaaDoor
