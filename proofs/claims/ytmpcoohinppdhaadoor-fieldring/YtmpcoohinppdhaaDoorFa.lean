/-
  field.shift and field.settle, called.
-/
import Derived.Test.YtmpcoohinppdhaaDoorMulx
import Derived.Test.YtmpcoohinppdhaaDoorFMath
namespace Go.Proofs.YtmpcoohinppdhaaDoor
open Go.RowKit
set_option maxHeartbeats 400000 in
theorem shift_any (w0 w1 w2 w3 : Int) (hw : Lim4 w0 w1 w2 w3) (w : World) :
    Calls Tryd.prog 34 #[.int .u64 w0, .int .u64 w1, .int .u64 w2, .int .u64 w3] w fun e w' =>
      ∃ v0 v1 v2 v3 : Int, e = .returned (.tuple #[.int .u64 v0, .int .u64 v1, .int .u64 v2, .int .u64 v3]) ∧ Hid (ShiftP w0 w1 w2 w3 v0 v1 v2 v3) ∧ w' = w := by
  have hx : Lim (IntKind.u64.wrap (w0 * 4294967296)) := by rw [IntKind.wrap_u64]; unfold Lim; omega
  have hy : Lim (w0 / 4294967296) := by have := hw.1; unfold Lim at *; omega
  go_enter Tryd.func34, Tryd.ntmps34
  go_wp2_with fail
  refine (mul64_any w0 18446744069414584321 hw.1 (lim_of _ rfl) _).mono ?_
  rintro e wx ⟨hi, lo, rfl, HP, rfl⟩
  obtain ⟨s1, k1, H1, e1⟩ := add64_any w1 (IntKind.u64.wrap (w0 * 4294967296)) 0 hw.2.1 hx (by omega) (by omega)
  obtain ⟨s2, k2, H2, e2⟩ := add64_any w2 (w0 / 4294967296) k1 hw.2.2.1 hy H1.out.2.1 H1.out.2.2.1
  obtain ⟨s3, k3, H3, e3⟩ := add64_any w3 lo k2 hw.2.2.2 HP.out.2.1 H2.out.2.1 H2.out.2.2.1
  go_wp2
  refine bodyPost_ret (v := .tuple #[.int .u64 s1, .int .u64 s2, .int .u64 s3, .int .u64 (IntKind.u64.wrap (hi + k3))]) (by simp [results, Tryd.results34, go_sem]) rfl ⟨_, _, _, _, rfl, shift_of hw HP.out (IntKind.wrap_u64 _) rfl H1.out H2.out H3.out (IntKind.wrap_u64 _), rfl⟩
set_option maxHeartbeats 1000000 in
theorem settle_any (w0 w1 w2 w3 w4 : Int) (hw : Lim4 w0 w1 w2 w3) (h4 : Lim w4) (w : World) :
    Calls Tryd.prog 18 #[.int .u64 w0, .int .u64 w1, .int .u64 w2, .int .u64 w3, .int .u64 w4] w fun e w' =>
      ∃ r0 r1 r2 r3 : Int, e = .returned (.agg #[.int .u64 r0, .int .u64 r1, .int .u64 r2, .int .u64 r3]) ∧ Hid (FMod (val w0 w1 w2 w3 + B256 * w4) r0 r1 r2 r3) ∧ Ext w w' := by
  go_enter Tryd.func18, Tryd.ntmps18
  go_wp2
  go_loopw [0, 1, 2, 3, 4] (fun u0 u1 u2 u3 u4 wr => ∃ (x0 x1 x2 x3 x4 : Int), u0 = .int .u64 x0 ∧ u1 = .int .u64 x1 ∧ u2 = .int .u64 x2 ∧ u3 = .int .u64 x3 ∧ u4 = .int .u64 x4 ∧ Hid (Lim4 x0 x1 x2 x3 ∧ Lim x4 ∧ (val w0 w1 w2 w3 + B256 * w4) % FP = (val x0 x1 x2 x3 + B256 * x4) % FP) ∧ wr = w.alloc (.cells #[.int .u64 0, .int .u64 0, .int .u64 0, .int .u64 0] 24)) (fun u0 u1 u2 u3 u4 _ => (val (intOf u0) (intOf u1) (intOf u2) (intOf u3) + B256 * intOf u4).toNat)
  case atStart => exact ⟨w0, w1, w2, w3, w4, rfl, rfl, rfl, rfl, rfl, ⟨hw, h4, rfl⟩, rfl⟩
  case round =>
    obtain ⟨x0, x1, x2, x3, x4, rfl, rfl, rfl, rfl, rfl, HI, rfl⟩ := hrel
    obtain ⟨r0, k0, H0, e0⟩ := sub64_any x0 18446744073709551615 0 HI.out.1.1 (lim_of _ rfl) (by omega) (by omega)
    obtain ⟨r1, k1, H1, e1⟩ := sub64_any x1 4294967295 k0 HI.out.1.2.1 (lim_of _ rfl) H0.out.2.1 H0.out.2.2.1
    obtain ⟨r2, k2, H2, e2⟩ := sub64_any x2 0 k1 HI.out.1.2.2.1 (lim_of _ rfl) H1.out.2.1 H1.out.2.2.1
    obtain ⟨r3, k3, H3, e3⟩ := sub64_any x3 18446744069414584321 k2 HI.out.1.2.2.2 (lim_of _ rfl) H2.out.2.1 H2.out.2.2.1
    obtain ⟨r4, k4, H4, e4⟩ := sub64_any x4 0 k3 HI.out.2.1 (lim_of _ rfl) H3.out.2.1 H3.out.2.2.1
    obtain ⟨hl, hl4, hc⟩ := settle_round HI.out.1 HI.out.2.1 H0.out H1.out H2.out H3.out H4.out
    rcases hc with ⟨rfl, hv⟩ | ⟨rfl, hv⟩
    · have HV : Hid (val r0 r1 r2 r3 + B256 * r4 = val x0 x1 x2 x3 + B256 * x4 - FP) := hv
      have HL : Hid (Lim4 r0 r1 r2 r3 ∧ Lim r4) := ⟨hl, hl4⟩
      clear hv hl hl4 H0 H1 H2 H3 H4
      go_wp2
      go_roundw
      case rel => exact ⟨r0, r1, r2, r3, r4, rfl, rfl, rfl, rfl, rfl, ⟨HL.out.1, HL.out.2, by rw [HI.out.2.2, HV.out]; exact emod_of 1 (by omega)⟩, trivial⟩
      case measure =>
        have h1 := HV.out
        have h2 := val_bd HL.out.1
        have h3 := HL.out.2
        simp only [intOf]
        unfold Lim B256 FP at *
        omega
    · have HV : Hid (FMod (val x0 x1 x2 x3 + B256 * x4) x0 x1 x2 x3) := hv
      clear hv hl hl4 H0 H1 H2 H3 H4
      go_wp2
      refine bodyPost_ret (v := .agg #[.int .u64 x0, .int .u64 x1, .int .u64 x2, .int .u64 x3]) (by simp [results, Tryd.results18, go_sem]) rfl ⟨x0, x1, x2, x3, rfl, HV.out.cong HI.out.2.2.symm, ?_⟩
      exact (Ext.refl _).alloc _
end Go.Proofs.YtmpcoohinppdhaaDoor
