/-
  The walk of the statement LimbsBytes: true, whatever the number, the text and the place; nothing old is turned.
-/
import Derived.Test.YtfndloakoknpaaaBackWalk
import Derived.Test.YtfndloakoknpaaaRefFrom
import Derived.Test.YtfndloakoknpaaaRefBytes
namespace Go.Proofs.Ytfndloakoknpaaa
open Go.RowKit
theorem keepB {wo w wx : World} {ba b7 b9 : Nat} {a0 a1 a2 a3 x0 x1 x2 x3 : Int} (hb : Ext w wx) (h : Ext wo w ∧ w.cell? ⟨ba, 0, none⟩ = some (.int .u64 a0) ∧ w.cell? ⟨ba, 1, none⟩ = some (.int .u64 a1) ∧ w.cell? ⟨ba, 2, none⟩ = some (.int .u64 a2) ∧ w.cell? ⟨ba, 3, none⟩ = some (.int .u64 a3) ∧ w.cell? ⟨b7, 0, none⟩ = some (.int .u64 x0) ∧ w.cell? ⟨b7, 1, none⟩ = some (.int .u64 x1) ∧ w.cell? ⟨b7, 2, none⟩ = some (.int .u64 x2) ∧ w.cell? ⟨b7, 3, none⟩ = some (.int .u64 x3) ∧ w.cell? ⟨b9, 0, none⟩ = some (.int .u64 x0) ∧ w.cell? ⟨b9, 1, none⟩ = some (.int .u64 x1) ∧ w.cell? ⟨b9, 2, none⟩ = some (.int .u64 x2) ∧ w.cell? ⟨b9, 3, none⟩ = some (.int .u64 x3)) : Ext wo wx ∧ wx.cell? ⟨ba, 0, none⟩ = some (.int .u64 a0) ∧ wx.cell? ⟨ba, 1, none⟩ = some (.int .u64 a1) ∧ wx.cell? ⟨ba, 2, none⟩ = some (.int .u64 a2) ∧ wx.cell? ⟨ba, 3, none⟩ = some (.int .u64 a3) ∧ wx.cell? ⟨b7, 0, none⟩ = some (.int .u64 x0) ∧ wx.cell? ⟨b7, 1, none⟩ = some (.int .u64 x1) ∧ wx.cell? ⟨b7, 2, none⟩ = some (.int .u64 x2) ∧ wx.cell? ⟨b7, 3, none⟩ = some (.int .u64 x3) ∧ wx.cell? ⟨b9, 0, none⟩ = some (.int .u64 x0) ∧ wx.cell? ⟨b9, 1, none⟩ = some (.int .u64 x1) ∧ wx.cell? ⟨b9, 2, none⟩ = some (.int .u64 x2) ∧ wx.cell? ⟨b9, 3, none⟩ = some (.int .u64 x3) :=
  ⟨h.1.trans hb, later hb h.2.1, later hb h.2.2.1, later hb h.2.2.2.1, later hb h.2.2.2.2.1, later hb h.2.2.2.2.2.1, later hb h.2.2.2.2.2.2.1, later hb h.2.2.2.2.2.2.2.1, later hb h.2.2.2.2.2.2.2.2.1, later hb h.2.2.2.2.2.2.2.2.2.1, later hb h.2.2.2.2.2.2.2.2.2.2.1, later hb h.2.2.2.2.2.2.2.2.2.2.2.1, later hb h.2.2.2.2.2.2.2.2.2.2.2.2⟩
theorem from_two (s : ByteArray) (hs : s.size ≤ maxLen) : ∃ x0 x1 x2 x3 ec : Int, (∀ wx, Calls Try.prog 18 #[.string s] wx fun e w' => e = .returned (.tuple #[.agg #[.int .u64 x0, .int .u64 x1, .int .u64 x2, .int .u64 x3], .int .i64 ec]) ∧ Ext wx w') ∧
    (∀ wx, Calls Try.prog 19 #[.string s] wx fun e w' => e = .returned (.tuple #[.agg #[.int .u64 x0, .int .u64 x1, .int .u64 x2, .int .u64 x3], .int .i64 ec]) ∧ Ext wx w') := by
  by_cases h : s.size = 32
  · exact ⟨_, _, _, _, _, fun wx => from_any s h wx, fun wx => refFrom_any s h wx⟩
  · exact ⟨_, _, _, _, _, fun wx => from_bad s hs h wx, fun wx => refFrom_bad s hs h wx⟩
theorem bit_two (a0 a1 a2 a3 i : Int) : ∃ b : Bool, (∀ wx, Calls Try.prog 22 #[.agg #[.int .u64 a0, .int .u64 a1, .int .u64 a2, .int .u64 a3], .int .i64 i] wx fun e w' => e = .returned (.bool b) ∧ Ext wx w') ∧
    (∀ wx, Calls Try.prog 23 #[.agg #[.int .u64 a0, .int .u64 a1, .int .u64 a2, .int .u64 a3], .int .i64 i] wx fun e w' => e = .returned (.bool b) ∧ Ext wx w') := by
  by_cases h : i < 0 ∨ 255 < i
  · exact ⟨_, fun wx => bit_out a0 a1 a2 a3 i h wx, fun wx => refBit_out a0 a1 a2 a3 i h wx⟩
  · obtain ⟨k, rfl⟩ := Int.eq_ofNat_of_zero_le (show 0 ≤ i by omega)
    exact ⟨_, fun wx => bit_in a0 a1 a2 a3 k (by omega) wx, fun wx => refBit_in a0 a1 a2 a3 k (by omega) wx⟩
attribute [local go_sem] run_eq4
set_option maxHeartbeats 2000000 in
theorem bytesLaw_any (a0 a1 a2 a3 : Int) (s : ByteArray) (i : Int) (_ha : Lim4 a0 a1 a2 a3) (hs : s.size ≤ maxLen) (_hi : (Lit.int .i64 i).wf = true) (w : World) :
    Calls Try.prog 5 #[.agg #[.int .u64 a0, .int .u64 a1, .int .u64 a2, .int .u64 a3], .string s, .int .i64 i] w fun e w' => e = .returned (.bool true) ∧ Ext w w' := by
  obtain ⟨x0, x1, x2, x3, ec, g18, g19⟩ := from_two s hs
  obtain ⟨bb, g22, g23⟩ := bit_two a0 a1 a2 a3 i
  have G18 : Hid _ := g18
  have G19 : Hid _ := g19
  have G22 : Hid _ := g22
  have G23 : Hid _ := g23
  obtain ⟨S, HS⟩ : ∃ S, Hid (bs (byteAt a0 a1 a2 a3) = S) := ⟨_, rfl⟩
  have G20 : Hid (∀ wx, Calls Try.prog 20 #[.agg #[.int .u64 a0, .int .u64 a1, .int .u64 a2, .int .u64 a3]] wx fun e w' => e = .returned (.string S) ∧ Ext wx w') := fun wx => HS.out ▸ bytes_any a0 a1 a2 a3 wx
  have G21 : Hid (∀ wx, Calls Try.prog 21 #[.agg #[.int .u64 a0, .int .u64 a1, .int .u64 a2, .int .u64 a3]] wx fun e w' => e = .returned (.string S) ∧ Ext wx w') := fun wx => HS.out ▸ refBytes_any a0 a1 a2 a3 wx
  clear g18 g19 g22 g23 _ha hs _hi
  have R0 := Row.new w a0 a1 a2 a3
  have HE0 : Hid (Ext w (w.alloc (.cells #[.int .u64 a0, .int .u64 a1, .int .u64 a2, .int .u64 a3] 24))) := (Ext.refl _).alloc _
  go_enter Try.func5, Try.ntmps5
  go_wp2_with fail
  refine (G18.out _).mono ?_
  rintro e w1 ⟨rfl, HX⟩
  have RA := R0.ext HX
  clear R0
  have HEw1 : Hid (Ext w w1) := (HE0.out).trans HX
  clear HX HE0
  generalize w.heap.size = ba at *
  go_wp2_with fail
  refine (G19.out _).mono ?_
  rintro e w2 ⟨rfl, HX⟩
  have HEw2 : Hid (Ext w w2) := ((HEw1.out.alloc _)).trans HX
  replace RA := RA.ext ((((Ext.refl _).alloc _)).trans HX)
  have Rb7 := (Row.new w1 x0 x1 x2 x3).ext HX
  clear HX HEw1
  generalize w1.heap.size = b7 at *
  go_wp2_with fail
  have RV := Row.new w2 x0 x1 x2 x3
  have HX : Ext w2 (w2.alloc (.cells #[.int .u64 x0, .int .u64 x1, .int .u64 x2, .int .u64 x3] 24)) := (Ext.refl _).alloc _
  have start : Hid ((fun wx : World => Ext w wx ∧ wx.cell? ⟨ba, 0, none⟩ = some (.int .u64 a0) ∧ wx.cell? ⟨ba, 1, none⟩ = some (.int .u64 a1) ∧ wx.cell? ⟨ba, 2, none⟩ = some (.int .u64 a2) ∧ wx.cell? ⟨ba, 3, none⟩ = some (.int .u64 a3) ∧ wx.cell? ⟨b7, 0, none⟩ = some (.int .u64 x0) ∧ wx.cell? ⟨b7, 1, none⟩ = some (.int .u64 x1) ∧ wx.cell? ⟨b7, 2, none⟩ = some (.int .u64 x2) ∧ wx.cell? ⟨b7, 3, none⟩ = some (.int .u64 x3) ∧ wx.cell? ⟨w2.heap.size, 0, none⟩ = some (.int .u64 x0) ∧ wx.cell? ⟨w2.heap.size, 1, none⟩ = some (.int .u64 x1) ∧ wx.cell? ⟨w2.heap.size, 2, none⟩ = some (.int .u64 x2) ∧ wx.cell? ⟨w2.heap.size, 3, none⟩ = some (.int .u64 x3)) (w2.alloc (.cells #[.int .u64 x0, .int .u64 x1, .int .u64 x2, .int .u64 x3] 24)).drew) :=
    keepB ((Ext.refl _).drew) ⟨HEw2.out.trans HX, later HX RA.2.1, later HX RA.2.2.1, later HX RA.2.2.2.1, later HX RA.2.2.2.2, later HX Rb7.2.1, later HX Rb7.2.2.1, later HX Rb7.2.2.2.1, later HX Rb7.2.2.2.2, RV.2.1, RV.2.2.1, RV.2.2.2.1, RV.2.2.2.2⟩
  clear HX RV RA Rb7 HEw2
  generalize w2.alloc (.cells #[.int .u64 x0, .int .u64 x1, .int .u64 x2, .int .u64 x3] 24) = W at *
  generalize w2.heap.size = b9 at *
  have q1 : eq4 x0 x1 x2 x3 x0 x1 x2 x3 = true := by simp [eq4]
  go_region_held3 (fun wx : World => Ext w wx ∧ wx.cell? ⟨ba, 0, none⟩ = some (.int .u64 a0) ∧ wx.cell? ⟨ba, 1, none⟩ = some (.int .u64 a1) ∧ wx.cell? ⟨ba, 2, none⟩ = some (.int .u64 a2) ∧ wx.cell? ⟨ba, 3, none⟩ = some (.int .u64 a3) ∧ wx.cell? ⟨b7, 0, none⟩ = some (.int .u64 x0) ∧ wx.cell? ⟨b7, 1, none⟩ = some (.int .u64 x1) ∧ wx.cell? ⟨b7, 2, none⟩ = some (.int .u64 x2) ∧ wx.cell? ⟨b7, 3, none⟩ = some (.int .u64 x3) ∧ wx.cell? ⟨b9, 0, none⟩ = some (.int .u64 x0) ∧ wx.cell? ⟨b9, 1, none⟩ = some (.int .u64 x1) ∧ wx.cell? ⟨b9, 2, none⟩ = some (.int .u64 x2) ∧ wx.cell? ⟨b9, 3, none⟩ = some (.int .u64 x3)) (first | exact start.out | exact keepB (by assumption) (by assumption)) (first | (go_at_call 20; refine (G20.out _).mono ?_; rintro e wy ⟨rfl, HX⟩) | (go_at_call 21; refine (G21.out _).mono ?_; rintro e wy ⟨rfl, HX⟩) | (go_at_call 22; refine (G22.out _).mono ?_; rintro e wy ⟨rfl, HX⟩) | (go_at_call 23; refine (G23.out _).mono ?_; rintro e wy ⟨rfl, HX⟩) | (go_at_call 14; refine (long_any _).mono ?_; rintro e wy ⟨rfl, HX⟩) | (go_at_call 15; refine (awake_any _).mono ?_; rintro e wy ⟨rfl, HX⟩))
  have hE : Ext w wy := (‹Ext w wy ∧ _›).1
  clear start q1
  go_wp2
  go_ret
  exact ⟨rfl, hE⟩
end Go.Proofs.Ytfndloakoknpaaa
