/-
  The statements' own small call 'awake' answers true, in whatever world where the package's variables hold what their initialisers lay; nothing old is turned.
-/
import Derived.Test.YtmpcoohinppdhaaDoorFq
namespace Go.Proofs.YtmpcoohinppdhaaDoor
open Go.RowKit
theorem sqrt4 {r0 r1 r2 r3 : Int} {ok : Bool} (h : SqrtP (val 4 0 0 0) r0 r1 r2 r3 ok) : (r0 = 2 ∧ r1 = 0 ∧ r2 = 0 ∧ r3 = 0) ∧ ok = true := by
  have hR : RootQ (val 4 0 0 0) := rootQ_of (y := 2) (by decide)
  have hk := h.2.2.1.2 hR
  obtain ⟨he, hs⟩ := h.2.2.2.1 hk
  have hv : val r0 r1 r2 r3 = val 2 0 0 0 := root_even_one (val_bd h.1).1 h.2.1 (by decide) (by decide) he (by decide) (hs.trans (by decide))
  exact ⟨val_inj h.1 (by unfold Lim4 Lim; decide) hv, hk⟩
theorem sqrt9 {r0 r1 r2 r3 : Int} {ok : Bool} (h : SqrtP (val 9 0 0 0) r0 r1 r2 r3 ok) : (r0 = 18446744073709551612 ∧ r1 = 4294967295 ∧ r2 = 0 ∧ r3 = 18446744069414584321) ∧ ok = true := by
  have hR : RootQ (val 9 0 0 0) := rootQ_of (y := 3) (by decide)
  have hk := h.2.2.1.2 hR
  obtain ⟨he, hs⟩ := h.2.2.2.1 hk
  have hv : val r0 r1 r2 r3 = val 18446744073709551612 4294967295 0 18446744069414584321 := root_even_one (val_bd h.1).1 h.2.1 (by decide) (by decide) he (by decide) (hs.trans (by decide))
  exact ⟨val_inj h.1 (by unfold Lim4 Lim; decide) hv, hk⟩
theorem sub3 {r0 r1 r2 r3 : Int} {c : Bool} (h : SubP 18446744073709551615 4294967295 0 18446744069414584321 3 0 0 0 r0 r1 r2 r3 c) : r0 = 18446744073709551612 ∧ r1 = 4294967295 ∧ r2 = 0 ∧ r3 = 18446744069414584321 := by
  have e1 : val 18446744073709551615 4294967295 0 18446744069414584321 - val 3 0 0 0 = val 18446744073709551612 4294967295 0 18446744069414584321 := by decide
  have hb := val_bd h.1
  have he := h.2
  rw [e1] at he
  refine val_inj h.1 (by unfold Lim4 Lim; decide) ?_
  cases c
  · simpa using he
  · have h2 : (0 : Int) ≤ val 18446744073709551612 4294967295 0 18446744069414584321 := by decide
    simp at he
    omega
theorem inv_two {r0 r1 r2 r3 s0 s1 s2 s3 : Int} (h : FMod (IP (val 2 0 0 0)) r0 r1 r2 r3) (k : FMod (val r0 r1 r2 r3 * val 2 0 0 0) s0 s1 s2 s3) : s0 = 1 ∧ s1 = 0 ∧ s2 = 0 ∧ s3 = 0 := by
  have h2 : (val 2 0 0 0 * IP (val 2 0 0 0)) % FP = 1 := inv_ok (by decide)
  generalize IP (val 2 0 0 0) = q at h h2
  refine val_inj k.1 (by unfold Lim4 Lim; decide) ?_
  rw [k.2, h.2, mod_mul_mod, Int.mul_comm, h2]
  decide
theorem fmod_const {X : Int} {r0 r1 r2 r3 c0 c1 c2 c3 : Int} (h : FMod X r0 r1 r2 r3) (hc : Lim4 c0 c1 c2 c3) (he : X % FP = val c0 c1 c2 c3) : r0 = c0 ∧ r1 = c1 ∧ r2 = c2 ∧ r3 = c3 := val_inj h.1 hc (h.2.trans he)
theorem c_sqrt4 (w : World) (hG : Gl w) : Calls Tryd.prog 16 #[.agg #[.int .u64 4, .int .u64 0, .int .u64 0, .int .u64 0]] w fun e w' => e = .returned (.tuple #[.agg #[.int .u64 2, .int .u64 0, .int .u64 0, .int .u64 0], .bool true]) ∧ Ext w w' :=
  (sqrt_any 4 0 0 0 ⟨lim_of _ rfl, lim_of _ rfl, lim_of _ rfl, lim_of _ rfl⟩ w hG).mono fun _ _ ⟨r0, r1, r2, r3, ok, h1, h2, h3⟩ => by
    obtain ⟨⟨rfl, rfl, rfl, rfl⟩, rfl⟩ := sqrt4 h2.out
    exact ⟨h1, h3⟩
theorem c_sqrt9 (w : World) (hG : Gl w) : Calls Tryd.prog 16 #[.agg #[.int .u64 9, .int .u64 0, .int .u64 0, .int .u64 0]] w fun e w' => e = .returned (.tuple #[.agg #[.int .u64 18446744073709551612, .int .u64 4294967295, .int .u64 0, .int .u64 18446744069414584321], .bool true]) ∧ Ext w w' :=
  (sqrt_any 9 0 0 0 ⟨lim_of _ rfl, lim_of _ rfl, lim_of _ rfl, lim_of _ rfl⟩ w hG).mono fun _ _ ⟨r0, r1, r2, r3, ok, h1, h2, h3⟩ => by
    obtain ⟨⟨rfl, rfl, rfl, rfl⟩, rfl⟩ := sqrt9 h2.out
    exact ⟨h1, h3⟩
theorem c_sub3 (w : World) : Calls Tryd.prog 22 #[.agg #[.int .u64 18446744073709551615, .int .u64 4294967295, .int .u64 0, .int .u64 18446744069414584321], .agg #[.int .u64 3, .int .u64 0, .int .u64 0, .int .u64 0]] w fun e w' => ∃ c : Bool, e = .returned (.tuple #[.agg #[.int .u64 18446744073709551612, .int .u64 4294967295, .int .u64 0, .int .u64 18446744069414584321], .bool c]) ∧ Ext w w' :=
  (refSub_raw _ _ _ _ 3 0 0 0 lim_FP ⟨lim_of _ rfl, lim_of _ rfl, lim_of _ rfl, lim_of _ rfl⟩ w).mono fun _ _ ⟨r0, r1, r2, r3, c, h1, h2, h3⟩ => by
    obtain ⟨rfl, rfl, rfl, rfl⟩ := sub3 h2.out
    exact ⟨c, h1, h3⟩
theorem c_add5 (w : World) : Calls Tryd.prog 6 #[.agg #[.int .u64 18446744073709551615, .int .u64 4294967295, .int .u64 0, .int .u64 18446744069414584321], .agg #[.int .u64 5, .int .u64 0, .int .u64 0, .int .u64 0]] w fun e w' => e = .returned (.agg #[.int .u64 5, .int .u64 0, .int .u64 0, .int .u64 0]) ∧ Ext w w' :=
  (fadd_any _ _ _ _ 5 0 0 0 lim_FP ⟨lim_of _ rfl, lim_of _ rfl, lim_of _ rfl, lim_of _ rfl⟩ w).mono fun _ _ ⟨r0, r1, r2, r3, h1, h2, h3⟩ => by
    obtain ⟨rfl, rfl, rfl, rfl⟩ := fmod_const (c0 := 5) (c1 := 0) (c2 := 0) (c3 := 0) h2.out ⟨lim_of _ rfl, lim_of _ rfl, lim_of _ rfl, lim_of _ rfl⟩ (by decide)
    exact ⟨h1, h3⟩
theorem c_sub0 (w : World) (hG : Gl w) : Calls Tryd.prog 8 #[.agg #[.int .u64 0, .int .u64 0, .int .u64 0, .int .u64 0], .agg #[.int .u64 0, .int .u64 0, .int .u64 0, .int .u64 0]] w fun e w' => e = .returned (.agg #[.int .u64 0, .int .u64 0, .int .u64 0, .int .u64 0]) ∧ Ext w w' :=
  (fsub_any 0 0 0 0 0 0 0 0 ⟨lim_of _ rfl, lim_of _ rfl, lim_of _ rfl, lim_of _ rfl⟩ ⟨lim_of _ rfl, lim_of _ rfl, lim_of _ rfl, lim_of _ rfl⟩ w hG).mono fun _ _ ⟨r0, r1, r2, r3, h1, h2, h3⟩ => by
    obtain ⟨rfl, rfl, rfl, rfl⟩ := fmod_const (c0 := 0) (c1 := 0) (c2 := 0) (c3 := 0) h2.out ⟨lim_of _ rfl, lim_of _ rfl, lim_of _ rfl, lim_of _ rfl⟩ (by decide)
    exact ⟨h1, h3⟩
theorem c_validp (w : World) (hG : Gl w) : Calls Tryd.prog 10 #[.agg #[.int .u64 18446744073709551615, .int .u64 4294967295, .int .u64 0, .int .u64 18446744069414584321]] w fun e w' => e = .returned (.bool false) ∧ Ext w w' :=
  (fvalid_any _ _ _ _ lim_FP w hG).mono fun _ _ h => ⟨(show decide (val 18446744073709551615 4294967295 0 18446744069414584321 < FP) = false from by decide) ▸ h.1, h.2⟩
attribute [local go_sem] run_eq4
set_option maxHeartbeats 2000000 in
theorem awake_any (w : World) (hG : Gl w) : Calls Tryd.prog 14 #[] w fun e w' => e = .returned (.bool true) ∧ Ext w w' := by
  have q1 : eq4 2 0 0 0 2 0 0 0 = true := rfl
  have q2 : eq4 18446744073709551612 4294967295 0 18446744069414584321 18446744073709551612 4294967295 0 18446744069414584321 = true := by decide
  have q3 : eq4 1 0 0 0 1 0 0 0 = true := rfl
  have q4 : eq4 5 0 0 0 5 0 0 0 = true := rfl
  have q5 : eq4 0 0 0 0 0 0 0 0 = true := rfl
  go_enter Tryd.func14, Tryd.ntmps14
  go_wp2_with fail
  refine (c_sqrt4 _ hG).mono ?_
  rintro e w1 ⟨rfl, HX⟩
  have RA := Row.new w1 2 0 0 0
  have HE1 : Hid (Ext w (w1.alloc (.cells #[.int .u64 2, .int .u64 0, .int .u64 0, .int .u64 0] 24))) := HX.alloc _
  clear HX
  go_wp2_with fail
  generalize w1.alloc (.cells #[.int .u64 2, .int .u64 0, .int .u64 0, .int .u64 0] 24) = W1 at *
  generalize w1.heap.size = ba at *
  refine (c_sqrt9 _ (hG.ext HE1.out)).mono ?_
  rintro e w2 ⟨rfl, HX⟩
  have RB := Row.new w2 18446744073709551612 4294967295 0 18446744069414584321
  have RA2 := RA.ext (HX.alloc (.cells #[.int .u64 18446744073709551612, .int .u64 4294967295, .int .u64 0, .int .u64 18446744069414584321] 24))
  have HE2 : Hid (Ext w (w2.alloc (.cells #[.int .u64 18446744073709551612, .int .u64 4294967295, .int .u64 0, .int .u64 18446744069414584321] 24))) := (HE1.out.trans HX).alloc _
  clear HX RA HE1
  go_wp2_with fail
  generalize w2.alloc (.cells #[.int .u64 18446744073709551612, .int .u64 4294967295, .int .u64 0, .int .u64 18446744069414584321] 24) = W2 at *
  generalize w2.heap.size = bb at *
  refine (refPrime_any _).mono ?_
  rintro e w3 ⟨rfl, HX⟩
  have RA3 := RA2.ext HX
  have RB3 := RB.ext HX
  have HE3 : Hid (Ext w w3) := HE2.out.trans HX
  clear HX RA2 RB HE2
  go_wp2_with fail
  refine (c_sub3 _).mono ?_
  rintro e w4 ⟨c, rfl, HX⟩
  have RC := Row.new w4 18446744073709551612 4294967295 0 18446744069414584321
  have HXa := HX.alloc (.cells #[.int .u64 18446744073709551612, .int .u64 4294967295, .int .u64 0, .int .u64 18446744069414584321] 24)
  obtain ⟨la, a0, a1, a2, a3⟩ := RA3.ext HXa
  obtain ⟨lb, b0, b1, b2, b3⟩ := RB3.ext HXa
  obtain ⟨lc, c0, c1, c2, c3⟩ := RC
  have HE4 : Hid (Ext w (w4.alloc (.cells #[.int .u64 18446744073709551612, .int .u64 4294967295, .int .u64 0, .int .u64 18446744069414584321] 24))) := HE3.out.trans HXa
  clear HX HXa RA3 RB3 HE3
  go_wp2_with fail
  clear la a0 a1 a2 a3 lb b0 b1 b2 b3 lc c0 c1 c2 c3
  generalize w4.alloc (.cells #[.int .u64 18446744073709551612, .int .u64 4294967295, .int .u64 0, .int .u64 18446744069414584321] 24) = W4 at *
  refine (finv_any _ _ _ _ ⟨lim_of _ rfl, lim_of _ rfl, lim_of _ rfl, lim_of _ rfl⟩ _ (hG.ext HE4.out)).mono ?_
  rintro e w5 ⟨r0, r1, r2, r3, rfl, HR, HX⟩
  have HE5 : Hid (Ext w w5) := HE4.out.trans HX
  clear HX HE4
  go_wp2_with fail
  refine (fmul_any _ _ _ _ 2 0 0 0 HR.out.1 ⟨lim_of _ rfl, lim_of _ rfl, lim_of _ rfl, lim_of _ rfl⟩ _ (hG.ext HE5.out)).mono ?_
  rintro e w6 ⟨s0, s1, s2, s3, rfl, HS, HX⟩
  obtain ⟨rfl, rfl, rfl, rfl⟩ := inv_two HR.out HS.out
  have HE6 : Hid (Ext w w6) := HE5.out.trans HX
  clear HX HE5 HS HR
  go_wp2_with fail
  refine (fprime_any _ (hG.ext HE6.out)).mono ?_
  rintro e w7 ⟨rfl, HX⟩
  have HE7 : Hid (Ext w w7) := HE6.out.trans HX
  clear HX HE6
  go_wp2_with fail
  refine (c_add5 _).mono ?_
  rintro e w8 ⟨rfl, HX⟩
  have HE8 : Hid (Ext w w8) := HE7.out.trans HX
  clear HX HE7
  go_wp2_with fail
  refine (fprime_any _ (hG.ext HE8.out)).mono ?_
  rintro e w9 ⟨rfl, HX⟩
  have HE9 : Hid (Ext w w9) := HE8.out.trans HX
  clear HX HE8
  go_wp2_with fail
  refine (c_validp _ (hG.ext HE9.out)).mono ?_
  rintro e w10 ⟨rfl, HX⟩
  have HE10 : Hid (Ext w w10) := HE9.out.trans HX
  clear HX HE9
  go_wp2_with fail
  refine (c_sub0 _ (hG.ext HE10.out)).mono ?_
  rintro e w11 ⟨rfl, HX⟩
  have HE11 : Hid (Ext w w11) := HE10.out.trans HX
  clear HX HE10
  go_wp2
  go_ret
  exact ⟨rfl, HE11.out⟩
end Go.Proofs.YtmpcoohinppdhaaDoor
