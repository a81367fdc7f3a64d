/-
  The statements' own small calls: 'long' and 'awake' answer true, in whatever world; nothing old is turned.
-/
import Derived.Test.YtfndloakoknpaaaMulP
import Derived.Test.YtfndloakoknpaaaCmp
import Derived.Test.YtfndloakoknpaaaFrom
import Derived.Test.YtfndloakoknpaaaBit
import Derived.Test.YtfndloakoknpaaaMathD
namespace Go.Proofs.Ytfndloakoknpaaa
open Go.RowKit
attribute [local go_sem] run_eq4
set_option maxHeartbeats 400000 in
theorem long_any (w : World) : Calls Try.prog 14 #[] w fun e w' => e = .returned (.bool true) ∧ Ext w w' := by
  have hs : (bs (byteAt 18446744073709551615 18446744073709551615 18446744073709551615 18446744073709551615)).size = 32 := rfl
  obtain ⟨S, HS⟩ : ∃ S, Hid (bs (byteAt 18446744073709551615 18446744073709551615 18446744073709551615 18446744073709551615) = S) := ⟨_, rfl⟩
  rw [HS.out] at hs
  go_enter Try.func14, Try.ntmps14
  go_wp2_with fail
  refine (all_any _).mono ?_
  rintro e w1 ⟨rfl, HX1⟩
  go_wp2_with fail
  refine (bytes_any _ _ _ _ _).mono ?_
  rw [HS.out]
  rintro e w2 ⟨rfl, HX2⟩
  go_wp2
  go_ret
  exact ⟨rfl, HX1.trans HX2⟩
theorem lim_of (x : Int) (h : decide (0 ≤ x ∧ x < 18446744073709551616) = true) : Lim x := by
  unfold Lim
  exact of_decide_eq_true h
theorem later {w wx : World} {a : Addr} {v : Value} (hb : Ext w wx) (h : w.cell? a = some v) : wx.cell? a = some v := cell_later hb h
theorem row_new (w : World) (x0 x1 x2 x3 : Value) (t : TypeId) : (w.alloc (.cells #[x0, x1, x2, x3] t)).cell? ⟨w.heap.size, 0, none⟩ = some x0 ∧ (w.alloc (.cells #[x0, x1, x2, x3] t)).cell? ⟨w.heap.size, 1, none⟩ = some x1 ∧ (w.alloc (.cells #[x0, x1, x2, x3] t)).cell? ⟨w.heap.size, 2, none⟩ = some x2 ∧ (w.alloc (.cells #[x0, x1, x2, x3] t)).cell? ⟨w.heap.size, 3, none⟩ = some x3 := by
  refine ⟨?_, ?_, ?_, ?_⟩ <;> (rw [World.cell?_alloc_at _ _ _ _ rfl]; rfl)
theorem keepA {wo w wx : World} {b1 b3 b4 : Nat} (hb : Ext w wx) (h : Ext wo w ∧ w.cell? ⟨b1, 0, none⟩ = some (.int .u64 0) ∧ w.cell? ⟨b1, 1, none⟩ = some (.int .u64 0) ∧ w.cell? ⟨b1, 2, none⟩ = some (.int .u64 0) ∧ w.cell? ⟨b1, 3, none⟩ = some (.int .u64 0) ∧ w.cell? ⟨b1 + 1, 0, none⟩ = some (.int .u64 1) ∧ w.cell? ⟨b1 + 1, 1, none⟩ = some (.int .u64 0) ∧ w.cell? ⟨b1 + 1, 2, none⟩ = some (.int .u64 0) ∧ w.cell? ⟨b1 + 1, 3, none⟩ = some (.int .u64 0) ∧ w.cell? ⟨b3, 0, none⟩ = some (.int .u64 0) ∧ w.cell? ⟨b3, 1, none⟩ = some (.int .u64 0) ∧ w.cell? ⟨b3, 2, none⟩ = some (.int .u64 0) ∧ w.cell? ⟨b3, 3, none⟩ = some (.int .u64 0) ∧ w.cell? ⟨b4, 0, none⟩ = some (.int .u64 18446744073709551615) ∧ w.cell? ⟨b4, 1, none⟩ = some (.int .u64 18446744073709551615) ∧ w.cell? ⟨b4, 2, none⟩ = some (.int .u64 18446744073709551615) ∧ w.cell? ⟨b4, 3, none⟩ = some (.int .u64 18446744073709551615)) : Ext wo wx ∧ wx.cell? ⟨b1, 0, none⟩ = some (.int .u64 0) ∧ wx.cell? ⟨b1, 1, none⟩ = some (.int .u64 0) ∧ wx.cell? ⟨b1, 2, none⟩ = some (.int .u64 0) ∧ wx.cell? ⟨b1, 3, none⟩ = some (.int .u64 0) ∧ wx.cell? ⟨b1 + 1, 0, none⟩ = some (.int .u64 1) ∧ wx.cell? ⟨b1 + 1, 1, none⟩ = some (.int .u64 0) ∧ wx.cell? ⟨b1 + 1, 2, none⟩ = some (.int .u64 0) ∧ wx.cell? ⟨b1 + 1, 3, none⟩ = some (.int .u64 0) ∧ wx.cell? ⟨b3, 0, none⟩ = some (.int .u64 0) ∧ wx.cell? ⟨b3, 1, none⟩ = some (.int .u64 0) ∧ wx.cell? ⟨b3, 2, none⟩ = some (.int .u64 0) ∧ wx.cell? ⟨b3, 3, none⟩ = some (.int .u64 0) ∧ wx.cell? ⟨b4, 0, none⟩ = some (.int .u64 18446744073709551615) ∧ wx.cell? ⟨b4, 1, none⟩ = some (.int .u64 18446744073709551615) ∧ wx.cell? ⟨b4, 2, none⟩ = some (.int .u64 18446744073709551615) ∧ wx.cell? ⟨b4, 3, none⟩ = some (.int .u64 18446744073709551615) :=
  ⟨h.1.trans hb, later hb h.2.1, later hb h.2.2.1, later hb h.2.2.2.1, later hb h.2.2.2.2.1, later hb h.2.2.2.2.2.1, later hb h.2.2.2.2.2.2.1, later hb h.2.2.2.2.2.2.2.1, later hb h.2.2.2.2.2.2.2.2.1, later hb h.2.2.2.2.2.2.2.2.2.1, later hb h.2.2.2.2.2.2.2.2.2.2.1, later hb h.2.2.2.2.2.2.2.2.2.2.2.1, later hb h.2.2.2.2.2.2.2.2.2.2.2.2.1, later hb h.2.2.2.2.2.2.2.2.2.2.2.2.2.1, later hb h.2.2.2.2.2.2.2.2.2.2.2.2.2.2.1, later hb h.2.2.2.2.2.2.2.2.2.2.2.2.2.2.2.1, later hb h.2.2.2.2.2.2.2.2.2.2.2.2.2.2.2.2⟩
theorem cmp_const {n : Int} (h : CmpP (val 0 1 0 0) (val 5 0 0 0) n) : n = 1 := by
  have e1 : val 0 1 0 0 = 18446744073709551616 := by decide
  have e2 : val 5 0 0 0 = 5 := by decide
  unfold CmpP at h
  rw [e1, e2] at h
  omega
theorem cmp_one (w : World) : Calls Try.prog 12 #[.agg #[.int .u64 0, .int .u64 1, .int .u64 0, .int .u64 0], .agg #[.int .u64 5, .int .u64 0, .int .u64 0, .int .u64 0]] w fun e w' => e = .returned (.int .i64 1) ∧ Ext w w' :=
  (cmp_any 0 1 0 0 5 0 0 0 ⟨lim_of _ rfl, lim_of _ rfl, lim_of _ rfl, lim_of _ rfl⟩ ⟨lim_of _ rfl, lim_of _ rfl, lim_of _ rfl, lim_of _ rfl⟩ w).mono fun _ _ ⟨_, he, hc, hx⟩ => ⟨cmp_const hc.out ▸ he, hx⟩
def t258 : ByteArray := ⟨#[0, 0, 0, 0, 0, 0, 0, 0, 0, 0, 0, 0, 0, 0, 0, 0, 0, 0, 0, 0, 0, 0, 0, 0, 0, 0, 0, 0, 0, 0, 1, 2]⟩
theorem bytes_258 (w : World) : Calls Try.prog 20 #[.agg #[.int .u64 258, .int .u64 0, .int .u64 0, .int .u64 0]] w fun e w' => e = .returned (.string t258) ∧ Ext w w' :=
  (bytes_any 258 0 0 0 w).mono fun _ _ h => ⟨(show bs (byteAt 258 0 0 0) = t258 from rfl) ▸ h.1, h.2⟩
theorem bit_64 (w : World) : Calls Try.prog 22 #[.agg #[.int .u64 0, .int .u64 1, .int .u64 0, .int .u64 0], .int .i64 64] w fun e w' => e = .returned (.bool true) ∧ Ext w w' :=
  (bit_in 0 1 0 0 64 (by decide) w).mono fun _ _ h => ⟨(show bitV (wd 0 1 0 0 (64 / 64)) 64 = true from by decide +kernel) ▸ h.1, h.2⟩
set_option maxHeartbeats 2000000 in
theorem awake_any (w : World) : Calls Try.prog 15 #[] w fun e w' => e = .returned (.bool true) ∧ Ext w w' := by
  go_enter Try.func15, Try.ntmps15
  go_wp2_with fail
  refine (mul_any _ _ _ _ _ _ _ _ ⟨lim_of _ rfl, lim_of _ rfl, lim_of _ rfl, lim_of _ rfl⟩ ⟨lim_of _ rfl, lim_of _ rfl, lim_of _ rfl, lim_of _ rfl⟩ _).mono ?_
  rintro e w1 ⟨l0, l1, l2, l3, h0, h1, h2, h3, rfl, HM, HX1⟩
  obtain ⟨⟨rfl, rfl, rfl, rfl⟩, ⟨rfl, rfl, rfl, rfl⟩⟩ := mul_const HM.out
  clear HM
  go_wp2_with fail
  refine (all_any _).mono ?_
  rintro e w2 ⟨rfl, HX2⟩
  go_wp2_with fail
  refine (add_any _ _ _ _ _ _ _ _ ⟨lim_of _ rfl, lim_of _ rfl, lim_of _ rfl, lim_of _ rfl⟩ ⟨lim_of _ rfl, lim_of _ rfl, lim_of _ rfl, lim_of _ rfl⟩ _).mono ?_
  rintro e w3 ⟨s0, s1, s2, s3, c, rfl, HA, HX3⟩
  obtain ⟨⟨rfl, rfl, rfl, rfl⟩, rfl⟩ := add_const HA.out
  clear HA
  go_wp2_with fail
  refine (sub_any _ _ _ _ _ _ _ _ ⟨lim_of _ rfl, lim_of _ rfl, lim_of _ rfl, lim_of _ rfl⟩ ⟨lim_of _ rfl, lim_of _ rfl, lim_of _ rfl, lim_of _ rfl⟩ _).mono ?_
  rintro e w4 ⟨s0, s1, s2, s3, c, rfl, HA, HX4⟩
  obtain ⟨⟨rfl, rfl, rfl, rfl⟩, rfl⟩ := sub_const HA.out
  clear HA
  go_wp2_with fail
  refine (from_bad _ (by decide) (by decide) _).mono ?_
  rintro e w5 ⟨rfl, HX5⟩
  go_wp2_with fail
  have HX6 : Ext w (w5.alloc (.cells #[.int .u64 0, .int .u64 0, .int .u64 0, .int .u64 0] 24)) := (((HX1.trans ((((Ext.refl _).alloc _).alloc _).trans HX2)).trans HX3).trans ((((Ext.refl _).alloc _).trans HX4).trans (((Ext.refl _).alloc _).trans HX5))).alloc _
  have e15 : Ext (w3.alloc (.cells #[.int .u64 0, .int .u64 0, .int .u64 0, .int .u64 0] 24)) (w5.alloc (.cells #[.int .u64 0, .int .u64 0, .int .u64 0, .int .u64 0] 24)) := (HX4.trans (((Ext.refl _).alloc _).trans HX5)).alloc _
  have e16 : Ext (w4.alloc (.cells #[.int .u64 18446744073709551615, .int .u64 18446744073709551615, .int .u64 18446744073709551615, .int .u64 18446744073709551615] 24)) (w5.alloc (.cells #[.int .u64 0, .int .u64 0, .int .u64 0, .int .u64 0] 24)) := HX5.alloc _
  have e13 := (HX2.trans HX3).trans (((Ext.refl _).alloc _).trans e15)
  have r1 := row_new w1 (.int .u64 0) (.int .u64 0) (.int .u64 0) (.int .u64 0) 24
  have r2 := row_new (w1.alloc (.cells #[.int .u64 0, .int .u64 0, .int .u64 0, .int .u64 0] 24)) (.int .u64 1) (.int .u64 0) (.int .u64 0) (.int .u64 0) 24
  rw [show (w1.alloc (.cells #[.int .u64 0, .int .u64 0, .int .u64 0, .int .u64 0] 24)).heap.size = w1.heap.size + 1 from by simp] at r2
  have r3 := row_new w3 (.int .u64 0) (.int .u64 0) (.int .u64 0) (.int .u64 0) 24
  have r4 := row_new w4 (.int .u64 18446744073709551615) (.int .u64 18446744073709551615) (.int .u64 18446744073709551615) (.int .u64 18446744073709551615) 24
  have e11 := ((Ext.refl (w1.alloc (.cells #[.int .u64 0, .int .u64 0, .int .u64 0, .int .u64 0] 24))).alloc (.cells #[.int .u64 1, .int .u64 0, .int .u64 0, .int .u64 0] 24)).trans e13
  have start : Hid ((fun wx : World => Ext w wx ∧ wx.cell? ⟨w1.heap.size, 0, none⟩ = some (.int .u64 0) ∧ wx.cell? ⟨w1.heap.size, 1, none⟩ = some (.int .u64 0) ∧ wx.cell? ⟨w1.heap.size, 2, none⟩ = some (.int .u64 0) ∧ wx.cell? ⟨w1.heap.size, 3, none⟩ = some (.int .u64 0) ∧ wx.cell? ⟨w1.heap.size + 1, 0, none⟩ = some (.int .u64 1) ∧ wx.cell? ⟨w1.heap.size + 1, 1, none⟩ = some (.int .u64 0) ∧ wx.cell? ⟨w1.heap.size + 1, 2, none⟩ = some (.int .u64 0) ∧ wx.cell? ⟨w1.heap.size + 1, 3, none⟩ = some (.int .u64 0) ∧ wx.cell? ⟨w3.heap.size, 0, none⟩ = some (.int .u64 0) ∧ wx.cell? ⟨w3.heap.size, 1, none⟩ = some (.int .u64 0) ∧ wx.cell? ⟨w3.heap.size, 2, none⟩ = some (.int .u64 0) ∧ wx.cell? ⟨w3.heap.size, 3, none⟩ = some (.int .u64 0) ∧ wx.cell? ⟨w4.heap.size, 0, none⟩ = some (.int .u64 18446744073709551615) ∧ wx.cell? ⟨w4.heap.size, 1, none⟩ = some (.int .u64 18446744073709551615) ∧ wx.cell? ⟨w4.heap.size, 2, none⟩ = some (.int .u64 18446744073709551615) ∧ wx.cell? ⟨w4.heap.size, 3, none⟩ = some (.int .u64 18446744073709551615)) (w5.alloc (.cells #[.int .u64 0, .int .u64 0, .int .u64 0, .int .u64 0] 24)).drew) :=
    keepA (Ext.refl _).drew ⟨HX6, later e11 r1.1, later e11 r1.2.1, later e11 r1.2.2.1, later e11 r1.2.2.2, later e13 r2.1, later e13 r2.2.1, later e13 r2.2.2.1, later e13 r2.2.2.2, later e15 r3.1, later e15 r3.2.1, later e15 r3.2.2.1, later e15 r3.2.2.2, later e16 r4.1, later e16 r4.2.1, later e16 r4.2.2.1, later e16 r4.2.2.2⟩
  clear HX1 HX2 HX3 HX4 HX5 HX6 e11 e13 e15 e16 r1 r2 r3 r4
  generalize w5.alloc (.cells #[.int .u64 0, .int .u64 0, .int .u64 0, .int .u64 0] 24) = W at *
  generalize w1.heap.size = b1 at *
  generalize w3.heap.size = b3 at *
  generalize w4.heap.size = b4 at *
  generalize w5.heap.size = b5 at *
  have q1 : eq4 0 0 0 0 0 0 0 0 = true := rfl
  have q2 : eq4 1 0 0 0 1 0 0 0 = true := rfl
  have q3 : eq4 18446744073709551615 18446744073709551615 18446744073709551615 18446744073709551615 18446744073709551615 18446744073709551615 18446744073709551615 18446744073709551615 = true := by decide
  have hz : t258.size = 32 := rfl
  have hsl : ∀ wx, (Instr.slice 9 (.string t258) (some (.int .i64 30)) none none).run Try.prog wx = .ok (.string ⟨#[1, 2]⟩) wx := fun _ => by kernel_rfl
  have hex : t258.extract 30 32 = ⟨#[1, 2]⟩ := rfl
  go_region_held3 (fun wx : World => Ext w wx ∧ wx.cell? ⟨b1, 0, none⟩ = some (.int .u64 0) ∧ wx.cell? ⟨b1, 1, none⟩ = some (.int .u64 0) ∧ wx.cell? ⟨b1, 2, none⟩ = some (.int .u64 0) ∧ wx.cell? ⟨b1, 3, none⟩ = some (.int .u64 0) ∧ wx.cell? ⟨b1 + 1, 0, none⟩ = some (.int .u64 1) ∧ wx.cell? ⟨b1 + 1, 1, none⟩ = some (.int .u64 0) ∧ wx.cell? ⟨b1 + 1, 2, none⟩ = some (.int .u64 0) ∧ wx.cell? ⟨b1 + 1, 3, none⟩ = some (.int .u64 0) ∧ wx.cell? ⟨b3, 0, none⟩ = some (.int .u64 0) ∧ wx.cell? ⟨b3, 1, none⟩ = some (.int .u64 0) ∧ wx.cell? ⟨b3, 2, none⟩ = some (.int .u64 0) ∧ wx.cell? ⟨b3, 3, none⟩ = some (.int .u64 0) ∧ wx.cell? ⟨b4, 0, none⟩ = some (.int .u64 18446744073709551615) ∧ wx.cell? ⟨b4, 1, none⟩ = some (.int .u64 18446744073709551615) ∧ wx.cell? ⟨b4, 2, none⟩ = some (.int .u64 18446744073709551615) ∧ wx.cell? ⟨b4, 3, none⟩ = some (.int .u64 18446744073709551615)) (first | exact start.out | exact keepA (by assumption) (by assumption)) (first | (go_at_call 26; refine (all_any _).mono ?_; rintro e wy ⟨rfl, HX⟩) | (go_at_call 12; refine (cmp_one _).mono ?_; rintro e wy ⟨rfl, HX⟩) | (go_at_call 20; refine (bytes_258 _).mono ?_; rintro e wy ⟨rfl, HX⟩) | (go_at_call 22; refine (bit_64 _).mono ?_; rintro e wy ⟨rfl, HX⟩))
  have hE : Ext w wy := (‹Ext w wy ∧ _›).1
  clear start q1 q2 q3 hz hsl hex
  go_wp2
  go_ret
  exact ⟨rfl, hE⟩
end Go.Proofs.Ytfndloakoknpaaa
