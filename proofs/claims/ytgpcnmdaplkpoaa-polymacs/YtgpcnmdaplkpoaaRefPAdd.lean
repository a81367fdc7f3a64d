/-
  The document's sum modulo 2^130 - 5 (sandglassref10.prime, add), called; nothing old is turned.
-/
import Derived.Test.YtgpcnmdaplkpoaaRowf
import Derived.Test.YtgpcnmdaplkpoaaPolyMath
import Derived.Test.YtgpcnmdaplkpoaaRefAddx
import Derived.Test.YtgpcnmdaplkpoaaRefSubx
import Derived.Test.YtgpcnmdaplkpoaaRefCmpx
import Derived.Deep.RegionHeld3
import Derived.Deep.DeepCutAuto
namespace Go.Proofs.Ytgpcnmdaplkpoaa
open Go.RowKit
set_option maxHeartbeats 400000 in
theorem refPrime_any (w : World) : Calls Try.prog 26 #[] w fun e w' => e = .returned (.agg #[.int .u64 18446744073709551611, .int .u64 18446744073709551615, .int .u64 3, .int .u64 0]) ∧ Ext w w' := by
  go_enter Try.func26, Try.ntmps26
  go_wp2
  refine bodyPost_ret (v := .agg #[.int .u64 18446744073709551611, .int .u64 18446744073709551615, .int .u64 3, .int .u64 0]) (by simp [results, Try.results26, go_sem]) rfl ⟨rfl, ?_⟩
  exact (Ext.refl _).alloc _
theorem cmp_geqp {a n : Int} (h : CmpP a P13 n) : decide (0 ≤ n) = !decide (a < P13) := by
  unfold CmpP at h
  rcases h with ⟨rfl, h⟩ | ⟨rfl, h⟩ | ⟨rfl, h⟩ <;> simp <;> omega
set_option maxHeartbeats 4000000 in
theorem refPAdd_any (x0 x1 x2 x3 y0 y1 y2 y3 : Int) (hx : Lim4 x0 x1 x2 x3) (hy : Lim4 y0 y1 y2 y3) (lx : val x0 x1 x2 x3 < P13) (ly : val y0 y1 y2 y3 < P13) (w : World) :
    Calls Try.prog 21 #[.agg #[.int .u64 x0, .int .u64 x1, .int .u64 x2, .int .u64 x3], .agg #[.int .u64 y0, .int .u64 y1, .int .u64 y2, .int .u64 y3]] w fun e w' => ∃ r0 r1 r2 r3 : Int, e = .returned (.agg #[.int .u64 r0, .int .u64 r1, .int .u64 r2, .int .u64 r3]) ∧ Hid (PMod (val x0 x1 x2 x3 + val y0 y1 y2 y3) r0 r1 r2 r3) ∧ Ext w w' := by
  have RZ := RowF.new ((w.alloc (.cells #[.int .u64 x0, .int .u64 x1, .int .u64 x2, .int .u64 x3] 48)).alloc (.cells #[.int .u64 y0, .int .u64 y1, .int .u64 y2, .int .u64 y3] 48)) 0 0 0 0
  rw [show ((w.alloc (.cells #[.int .u64 x0, .int .u64 x1, .int .u64 x2, .int .u64 x3] 48)).alloc (.cells #[.int .u64 y0, .int .u64 y1, .int .u64 y2, .int .u64 y3] 48)).heap.size = w.heap.size + 1 + 1 from by simp] at RZ
  have HE0 : Hid (Ext w (((w.alloc (.cells #[.int .u64 x0, .int .u64 x1, .int .u64 x2, .int .u64 x3] 48)).alloc (.cells #[.int .u64 y0, .int .u64 y1, .int .u64 y2, .int .u64 y3] 48)).alloc (.cells #[.int .u64 0, .int .u64 0, .int .u64 0, .int .u64 0] 48))) := (((Ext.refl _).alloc _).alloc _).alloc _
  have HB : SizeLe w (w.heap.size + 1 + 1) := by unfold SizeLe; omega
  have HG0 : Hid (∀ s0 s1 s2 s3 k, AddP x0 x1 x2 x3 y0 y1 y2 y3 s0 s1 s2 s3 k → val s0 s1 s2 s3 < P13 → PMod (val x0 x1 x2 x3 + val y0 y1 y2 y3) s0 s1 s2 s3) := fun _ _ _ _ _ h1 h2 => padd_small hx hy lx ly h1 h2
  have HG1 : Hid (∀ s0 s1 s2 s3 k, AddP x0 x1 x2 x3 y0 y1 y2 y3 s0 s1 s2 s3 k → ¬ val s0 s1 s2 s3 < P13 → ∀ d0 d1 d2 d3 c, SubP s0 s1 s2 s3 18446744073709551611 18446744073709551615 3 0 d0 d1 d2 d3 c → PMod (val x0 x1 x2 x3 + val y0 y1 y2 y3) d0 d1 d2 d3) := fun _ _ _ _ _ h1 h2 _ _ _ _ _ h3 => padd_great hx hy lx ly h1 h2 h3
  clear lx ly
  go_enter Try.func21, Try.ntmps21
  go_wp2_with fail
  refine (refAdd_raw _ _ _ _ _ _ _ _ hx hy _).mono ?_
  rintro e w1 ⟨s0, s1, s2, s3, k, rfl, HA, HX⟩
  have RZ1 := (RZ.ext HX).ext ((Ext.refl _).alloc (.cells #[.int .u64 s0, .int .u64 s1, .int .u64 s2, .int .u64 s3] 48))
  have HE1 : Hid (Ext w (w1.alloc (.cells #[.int .u64 s0, .int .u64 s1, .int .u64 s2, .int .u64 s3] 48))) := (HE0.out.trans HX).alloc _
  have RS := RowF.new w1 s0 s1 s2 s3
  have HBS : SizeLe w w1.heap.size := (HE0.out.trans HX).size
  have hne : w.heap.size + 1 + 1 ≠ w1.heap.size := Nat.ne_of_lt (RZ.ext HX).1.1
  clear HX HE0 RZ
  have HC : Hid (∀ wx, Calls Try.prog 25 #[.agg #[.int .u64 s0, .int .u64 s1, .int .u64 s2, .int .u64 s3], .agg #[.int .u64 18446744073709551611, .int .u64 18446744073709551615, .int .u64 3, .int .u64 0]] wx fun e w' => ∃ n : Int, e = .returned (.int .i64 n) ∧ Hid (CmpP (val s0 s1 s2 s3) P13 n) ∧ Ext wx w') := fun wx => by
    have h := refCmp_any s0 s1 s2 s3 _ _ _ _ HA.out.1 lim_P13 wx
    rw [val_P13] at h
    exact h
  have HM : Hid (∀ wx, Calls Try.prog 27 #[.agg #[.int .u64 s0, .int .u64 s1, .int .u64 s2, .int .u64 s3], .agg #[.int .u64 18446744073709551611, .int .u64 18446744073709551615, .int .u64 3, .int .u64 0]] wx fun e w' => ∃ (d0 d1 d2 d3 : Int) (c : Bool), e = .returned (.tuple #[.agg #[.int .u64 d0, .int .u64 d1, .int .u64 d2, .int .u64 d3], .bool c]) ∧ Hid (SubP s0 s1 s2 s3 18446744073709551611 18446744073709551615 3 0 d0 d1 d2 d3 c) ∧ Ext wx w') := fun wx => refSub_raw s0 s1 s2 s3 _ _ _ _ HA.out.1 lim_P13 wx
  have HGs := HG0.out _ _ _ _ _ HA.out
  have HGg := HG1.out _ _ _ _ _ HA.out
  replace HGs : Hid (_ → _) := HGs
  replace HGg : Hid (_ → _) := HGg
  clear HG0 HG1 HA hx hy
  go_wp2_with fail
  generalize w1.alloc (.cells #[.int .u64 s0, .int .u64 s1, .int .u64 s2, .int .u64 s3] 48) = W0 at *
  generalize w.heap.size + 1 + 1 = bz at *
  generalize w1.heap.size = b at *
  go_region_held3 (fun wx : World => Ext W0 wx ∧ wx.cell? ⟨b, 0, none⟩ = some (.int .u64 s0) ∧ wx.cell? ⟨b, 1, none⟩ = some (.int .u64 s1) ∧ wx.cell? ⟨b, 2, none⟩ = some (.int .u64 s2) ∧ wx.cell? ⟨b, 3, none⟩ = some (.int .u64 s3)) (first | exact keep1 (Ext.drew (Ext.refl _)) RS.1 | exact keep1 (by assumption) RS.1) (first | (go_at_call 26; refine (refPrime_any _).mono ?_; rintro e wy ⟨rfl, HX⟩; have hEy : Ext W0 wy := (by refine Ext.trans ?_ HX; simp only [*])) | (go_at_call 25; refine (HC.out _).mono ?_; rintro e wy ⟨n, rfl, HN, HX⟩; have hEy : Ext W0 wy := (by refine Ext.trans ?_ HX; simp only [*])))
  have RS1 := RS.ext hEy
  have RZ2 := RZ1.ext hEy
  have HE2 : Hid (Ext w wy) := HE1.out.trans hEy
  have hd := cmp_geqp HN.out
  clear hEy RS RZ1 HE1 HC
  rename_i hH
  clear hH
  generalize HCl : Hid (CmpP (val s0 s1 s2 s3) P13 n) = Z at HN
  clear HCl HN
  by_cases hv : val s0 s1 s2 s3 < P13
  · have HF : Hid (PMod (val x0 x1 x2 x3 + val y0 y1 y2 y3) s0 s1 s2 s3) := HGs.out hv
    have hn : decide (0 ≤ n) = false := by rw [hd]; simpa using hv
    have hn2 : ¬ 0 ≤ n := by simpa using hn
    clear hd hv HGs HGg
    obtain ⟨⟨ls, c0, c1, c2, c3⟩, f0, f1, f2, f3⟩ := RS1
    obtain ⟨⟨lz, k0, k1, k2, k3⟩, g0, g1, g2, g3⟩ := RZ2
    go_wp2
    refine bodyPost_ret (v := .agg #[.int .u64 s0, .int .u64 s1, .int .u64 s2, .int .u64 s3]) (by simp [results, Try.results21, go_sem, k0, k1, k2, k3]) rfl ⟨s0, s1, s2, s3, rfl, HF, ?_⟩
    exact (Ext.st HB (Ext.st HB (Ext.st HB (Ext.st HB HE2.out))))
  · have HF : Hid (∀ d0 d1 d2 d3 c, SubP s0 s1 s2 s3 18446744073709551611 18446744073709551615 3 0 d0 d1 d2 d3 c → PMod (val x0 x1 x2 x3 + val y0 y1 y2 y3) d0 d1 d2 d3) := HGg.out (by omega)
    have hn : decide (0 ≤ n) = true := by rw [hd]; simpa using hv
    have hn2 : 0 ≤ n := by simpa using hn
    clear hd hv HGs HGg
    have RS2 := RS1
    obtain ⟨⟨ls, c0, c1, c2, c3⟩, f0, f1, f2, f3⟩ := RS1
    go_wp2_with fail
    go_cut [] (fun wx => ∃ d0 d1 d2 d3 : Int, RowF wx b d0 d1 d2 d3 ∧ RowF wx bz 0 0 0 0 ∧ Hid (PMod (val x0 x1 x2 x3 + val y0 y1 y2 y3) d0 d1 d2 d3) ∧ Ext w wx)
    case first =>
      go_region_with (first | (go_at_call 26; go_must ((with_reducible refine (refPrime_any _).mono ?_); rintro e wv ⟨rfl, HX3⟩; have hW : Ext wy wv := Ext.trans (Ext.drew (Ext.refl _)) HX3; have RSv := RS2.ext hW; have RZv := RZ2.ext hW; have HEv : Hid (Ext w wv) := HE2.out.trans hW; clear hW HX3 ls c0 c1 c2 c3 f0 f1 f2 f3; have RSm := RSv; obtain ⟨⟨ls, c0, c1, c2, c3⟩, f0, f1, f2, f3⟩ := RSv)) | (go_at_call 27; go_must ((with_reducible refine (HM.out _).mono ?_); rintro e wu ⟨d0, d1, d2, d3, c, rfl, HD, HX4⟩; have RSu := RSm.ext HX4; have RZu := RZv.ext HX4; have HEu : Hid (Ext w wu) := HEv.out.trans HX4; clear HX4 ls c0 c1 c2 c3 f0 f1 f2 f3; have RSk := RSu; obtain ⟨⟨ls, c0, c1, c2, c3⟩, f0, f1, f2, f3⟩ := RSu)))
      all_goals
        go_wp2
        go_meet
        case rel => exact ⟨d0, d1, d2, d3, RowF.set RSk, RZu.other hne |>.other hne |>.other hne |>.other hne, HF.out _ _ _ _ _ HD.out, Ext.st HBS (Ext.st HBS (Ext.st HBS (Ext.st HBS HEu.out)))⟩
    case rest =>
      obtain ⟨d0, d1, d2, d3, RS3, RZ3, HR, HEc⟩ := hcut
      clear ls c0 c1 c2 c3 f0 f1 f2 f3
      obtain ⟨⟨ls, c0, c1, c2, c3⟩, f0, f1, f2, f3⟩ := RS3
      obtain ⟨⟨lz, k0, k1, k2, k3⟩, g0, g1, g2, g3⟩ := RZ3
      have HE3 : Hid (Ext w wc) := HEc
      clear HEc
      go_wp2
      refine bodyPost_ret (v := .agg #[.int .u64 d0, .int .u64 d1, .int .u64 d2, .int .u64 d3]) (by simp [results, Try.results21, go_sem, k0, k1, k2, k3]) rfl ⟨d0, d1, d2, d3, rfl, HR, ?_⟩
      exact (Ext.st HB (Ext.st HB (Ext.st HB (Ext.st HB HE3.out))))
end Go.Proofs.Ytgpcnmdaplkpoaa
