/-
  The law's own calls (sandglasslaw13.awake), walked: chapter 13's examples; it answers true; nothing old is turned.
-/
import Derived.Test.YtnaiccfdbapdpaaDoorAwMath
namespace Go.Proofs.YtnaiccfdbapdpaaDoor
open Go.RowKit
theorem sub_m {s0 s1 s2 s3 : Int} {c : Bool} (h : SubP 17562291160714782033 13611842547513532036 18446744073709551615 18446744069414584320 1 0 0 0 s0 s1 s2 s3 c) : QMod (FQ - 1) s0 s1 s2 s3 := by
  have e := h.2
  rw [val_FQ, val_one] at e
  have b := val_bd h.1
  refine ⟨h.1, ?_⟩
  rw [show (FQ - 1) % FQ = FQ - 1 from by decide]
  cases c
  · simpa using e
  · exfalso
    rw [if_pos rfl] at e
    have : (0 : Int) ≤ FQ - 1 := by decide
    omega
theorem five {r0 r1 r2 r3 : Int} (h : QMod (smN (fun i => wI PJ i 2 * val (FJ i 0) (FJ i 1) (FJ i 2) (FJ i 3)) 2) r0 r1 r2 r3) : r0 = 5 ∧ r1 = 0 ∧ r2 = 0 ∧ r3 = 0 :=
  h.one (show QMod 5 5 0 0 0 from ⟨⟨lim_of _ rfl, lim_of _ rfl, lim_of _ rfl, lim_of _ rfl⟩, by decide⟩) join2
theorem evm {r0 r1 r2 r3 : Int} (h : QMod (evL (cfs fA 2) (plc (-4))) r0 r1 r2 r3) : r0 = 5 ∧ r1 = 0 ∧ r2 = 0 ∧ r3 = 0 :=
  h.one (show QMod 5 5 0 0 0 from ⟨⟨lim_of _ rfl, lim_of _ rfl, lim_of _ rfl, lim_of _ rfl⟩, by decide⟩) (by decide +kernel)
theorem i64_of (x : Int) (h : decide (-9223372036854775808 ≤ x ∧ x ≤ 9223372036854775807) = true) : I64 x := by unfold I64; exact of_decide_eq_true h
attribute [local go_sem] run_eq4
set_option maxHeartbeats 16000000 in
set_option maxRecDepth 10000 in
theorem awake_any (w : World) (hG : Gl w) : Calls Tryd.prog 8 #[] w fun e w' => e = .returned (.bool true) ∧ Ext w w' := by
  have HEA : Hid (Ext w (w.alloc (.cells #[.int .u64 5, .int .u64 0, .int .u64 0, .int .u64 0, .int .u64 3, .int .u64 0, .int .u64 0, .int .u64 0] 26))) := (Ext.refl _).alloc _
  have HLc : Hid (Lies (w.alloc (.cells #[.int .u64 5, .int .u64 0, .int .u64 0, .int .u64 0, .int .u64 3, .int .u64 0, .int .u64 0, .int .u64 0] 26)) (.slice (some ⟨w.heap.size, 0, none⟩) 2 2) 2 4 (nc fA)) := lies_new w cA rfl
  have HG : Hid (Gl w) := hG
  clear hG
  go_enter Tryd.func8, Tryd.ntmps8
  go_wp2_with fail
  generalize w.alloc (.cells #[.int .u64 5, .int .u64 0, .int .u64 0, .int .u64 0, .int .u64 3, .int .u64 0, .int .u64 0, .int .u64 0] 26) = W1 at *
  refine (sshares_any _ 2 fA 3 (i64_of _ rfl) (by decide) limA _ (HG.out.ext HEA.out) HLc.out).mono ?_
  rintro e w1 ⟨ul, rfl, hl, HX1⟩
  have HLl : Hid (Lies w1 ul 3 5 (sc (fun i => (i : Int) + 1) (fun i j => qw (evL (cfs fA 2) ((i : Int) + 1)) j))) := hl
  have HE1 : Hid (Ext W1 w1) := HX1
  clear hl HX1
  go_wp2_with fail
  refine (sjoin_any _ 2 PJ FJ i2 (by decide) lim2 _ (HG.out.ext (HEA.out.trans (HE1.out.alloc _))) (lies_new w1 cJ rfl)).mono ?_
  rintro e w2 ⟨HX2, h⟩
  obtain ⟨hok, r0, r1, r2, r3, rfl, HQ⟩ := h.resolve_right (fun h => h.1 ok2)
  clear hok
  obtain ⟨rfl, rfl, rfl, rfl⟩ := five HQ.out
  have HE2 : Hid (Ext w1 w2) := ((Ext.refl _).alloc _).trans HX2
  clear h HQ HX2
  have Rk := Row.new w2 5 0 0 0
  have hW3 : Hid ((w2.alloc (.cells #[.int .u64 5, .int .u64 0, .int .u64 0, .int .u64 0] 26)).heap.size = w2.heap.size + 1) := World.size_alloc _ _
  have HE2b : Hid (Ext w1 (w2.alloc (.cells #[.int .u64 5, .int .u64 0, .int .u64 0, .int .u64 0] 26))) := HE2.out.alloc _
  go_wp2_with fail
  generalize w2.alloc (.cells #[.int .u64 5, .int .u64 0, .int .u64 0, .int .u64 0] 26) = W3 at *
  generalize w2.heap.size = bk at *
  refine (sweights_any _ 2 PWx i1 (by decide) _ (HG.out.ext (HEA.out.trans (HE1.out.trans (HE2b.out.alloc _)))) (lies_new W3 cW hW3.out)).mono ?_
  rintro e w3 ⟨HX3, h⟩
  obtain ⟨hok, uw, rfl, hl⟩ := h.resolve_right (fun h => h.1 ok1)
  clear hok
  have HLw : Hid (Lies w3 uw 2 4 (nc (fun i j => qw (wI PWx i 2) j))) := hl
  have HE3 : Hid (Ext W3 w3) := ((Ext.refl _).alloc _).trans HX3
  clear h hl HX3
  go_wp2_with fail
  refine (sjoin_any _ 0 PJ FJ (fun i h => absurd h (Nat.not_lt_zero i)) (by decide) (fun i h => absurd h (Nat.not_lt_zero i)) _ (HG.out.ext (HEA.out.trans (HE1.out.trans (HE2b.out.trans HE3.out)))) (lies_nil _ _ _)).mono ?_
  rintro e w4 ⟨HX4, h⟩
  obtain ⟨hok, rfl⟩ := h.resolve_left (fun h => bad0 _ h.1)
  clear hok
  have HE4 : Hid (Ext w3 (w4.alloc (.cells #[.int .u64 0, .int .u64 0, .int .u64 0, .int .u64 0] 26))) := HX4.alloc _
  clear h HX4
  go_wp2_with fail
  generalize w4.alloc (.cells #[.int .u64 0, .int .u64 0, .int .u64 0, .int .u64 0] 26) = W5 at *
  refine (refOrder_any _).mono ?_
  rintro e w5 ⟨rfl, HX5⟩
  go_wp2_with fail
  refine (refSub_raw 17562291160714782033 13611842547513532036 18446744073709551615 18446744069414584320 1 0 0 0 lim_FQ (lim_one (lim_of _ rfl)) _).mono ?_
  rintro e w6 ⟨s0, s1, s2, s3, cc, rfl, HS, HX6⟩
  have HM : Hid (QMod (FQ - 1) s0 s1 s2 s3) := sub_m HS.out
  have HE6 : Hid (Ext W5 w6) := HX5.trans HX6
  clear HS HX5 HX6
  have Rm := Row.new w6 s0 s1 s2 s3
  have hW7 : Hid ((w6.alloc (.cells #[.int .u64 s0, .int .u64 s1, .int .u64 s2, .int .u64 s3] 26)).heap.size = w6.heap.size + 1) := World.size_alloc _ _
  have HE7 : Hid (Ext W5 (w6.alloc (.cells #[.int .u64 s0, .int .u64 s1, .int .u64 s2, .int .u64 s3] 26))) := HE6.out.alloc _
  go_wp2_with fail
  generalize w6.alloc (.cells #[.int .u64 s0, .int .u64 s1, .int .u64 s2, .int .u64 s3] 26) = W7 at *
  generalize w6.heap.size = bm at *
  have HA7 : Hid (Ext W3 W7) := HE3.out.trans (HE4.out.trans HE7.out)
  refine (rsame_any _ _ 3 (fun i => (i : Int) + 1) (fun i j => qw (evL (cfs fA 2) ((i : Int) + 1)) j) (by decide) _ (HLl.out.ext ((HE2b.out.trans HA7.out).alloc _)) (lies_new W7 cS hW7.out)).mono ?_
  rintro e w8 ⟨rfl, HX8⟩
  have HE8 : Hid (Ext W7 w8) := ((Ext.refl _).alloc _).trans HX8
  clear HX8
  obtain ⟨lk, k0, k1, k2, k3⟩ := Rk.ext (HA7.out.trans HE8.out)
  obtain ⟨lm, m0, m1, m2, m3⟩ := Rm.ext HE8.out
  have h5 : eq4 5 0 0 0 5 0 0 0 = true := by decide
  go_wp2_with fail
  refine (rnums_any _ _ 2 (fun i j => qw (wI PWx i 2) j) (by decide) _ (HLw.out.ext (HE4.out.trans (HE7.out.trans (HE8.out.alloc _)))) (lies_new w8 (cN HM.out) rfl)).mono ?_
  rintro e w9 ⟨rfl, HX9⟩
  have HE9 : Hid (Ext w8 w9) := ((Ext.refl _).alloc _).trans HX9
  clear HX9 k0 k1 k2 k3 m0 m1 m2 m3 lk lm
  have HA9 : Hid (Ext W1 w9) := HE1.out.trans (HE2b.out.trans (HA7.out.trans (HE8.out.trans HE9.out)))
  go_wp2_with fail
  refine (seval_any _ 2 fA (-4) (i64_of _ rfl) (by decide) limA _ (HG.out.ext (HEA.out.trans HA9.out)) (HLc.out.ext HA9.out)).mono ?_
  rintro e w10 ⟨r0, r1, r2, r3, rfl, HQ, HX10⟩
  obtain ⟨rfl, rfl, rfl, rfl⟩ := evm HQ.out
  have HE10 : Hid (Ext w w10) := HEA.out.trans (HA9.out.trans HX10)
  clear HQ HX10
  go_wp2
  go_ret
  exact ⟨rfl, HE10.out⟩
end Go.Proofs.YtnaiccfdbapdpaaDoor
