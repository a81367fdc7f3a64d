/-
  field.power, called: the power modulo p; nothing old is turned.
-/
import Derived.Test.YtmpcoohinppdhaaDoorPMath
namespace Go.Proofs.YtmpcoohinppdhaaDoor
open Go.RowKit
set_option maxHeartbeats 2000000 in
theorem power_any (x0 x1 x2 x3 e0 e1 e2 e3 : Int) (hx : Lim4 x0 x1 x2 x3) (he : Lim4 e0 e1 e2 e3) (w : World) (hG : Gl w) :
    Calls Tryd.prog 29 #[.agg #[.int .u64 x0, .int .u64 x1, .int .u64 x2, .int .u64 x3], .agg #[.int .u64 e0, .int .u64 e1, .int .u64 e2, .int .u64 e3]] w fun e w' => ∃ r0 r1 r2 r3 : Int, e = .returned (.agg #[.int .u64 r0, .int .u64 r1, .int .u64 r2, .int .u64 r3]) ∧ Hid (FMod ((val x0 x1 x2 x3) ^ (val e0 e1 e2 e3).toNat) r0 r1 r2 r3) ∧ Ext w w' := by
  go_enter Tryd.func29, Tryd.ntmps29
  go_wp2_with fail
  generalize hn : w.heap.size = n at *
  refine scope_jumps2 0 (fun a wr => ∃ (j pl b7 : Nat) (T : Nat → Int) (s0 s1 s2 s3 : Int) (u6 u9 u10 u11 u12 u13 u14 u15 u16 u17 u18 u19 u20 u21 u22 u23 u24 u25 u26 u27 u28 u29 u30 u31 u32 u33 u34 u35 u36 u37 u38 u39 u40 u41 u42 u43 u44 u45 u46 u47 u48 u49 u50 u51 u52 u53 u54 u55 u56 u57 u58 : Value), a = { tmps := #[.agg #[.int .u64 x0, .int .u64 x1, .int .u64 x2, .int .u64 x3], .agg #[.int .u64 e0, .int .u64 e1, .int .u64 e2, .int .u64 e3], .pointer (some ⟨n, 0, none⟩), .pointer (some ⟨n + 1, 0, none⟩), .pointer (some ⟨n + 1 + 1, 0, none⟩), .pointer (some ⟨n + 1 + 1 + 1, 0, none⟩), u6, .pointer (some ⟨b7, 0, none⟩), .int .i64 (pl : Int), u9, u10, u11, u12, u13, u14, u15, u16, u17, u18, u19, u20, u21, u22, u23, u24, u25, u26, u27, u28, u29, u30, u31, u32, u33, u34, u35, u36, u37, u38, u39, u40, u41, u42, u43, u44, u45, u46, u47, u48, u49, u50, u51, u52, u53, u54, u55, u56, u57, u58], defers := [] } ∧ Hid (4 * j = pl) ∧ 1 ≤ j ∧ j ≤ 64 ∧ n + 1 + 1 + 1 < b7 ∧ SizeLe w b7 ∧ PW w wr n b7 e0 e1 e2 e3 T s0 s1 s2 s3 ∧ Hid (TabP (val x0 x1 x2 x3) T 16 ∧ FMod ((val x0 x1 x2 x3) ^ ((val e0 e1 e2 e3).toNat / 16 ^ j) * B256) s0 s1 s2 s3)) (fun a _ => (intOf (a.tmps.getD 8 undef)).toNat) rfl ?_ ?_
  · rintro a wr ⟨j, pl4, b7, T, s0, s1, s2, s3, u6, u9, u10, u11, u12, u13, u14, u15, u16, u17, u18, u19, u20, u21, u22, u23, u24, u25, u26, u27, u28, u29, u30, u31, u32, u33, u34, u35, u36, u37, u38, u39, u40, u41, u42, u43, u44, u45, u46, u47, u48, u49, u50, u51, u52, u53, u54, u55, u56, u57, u58, rfl, HJ, hj1, hj2, hb7, HB7, HP, HT⟩
    obtain ⟨j, rfl⟩ : ∃ i, j = i + 1 := ⟨j - 1, by omega⟩
    have hsub : IntKind.i64.wrap ((pl4 : Int) - 4) = ((4 * j : Nat) : Int) := by have := HJ.out; rw [IntKind.wrap_i64]; omega
    have hjl : Hid (j < 64) := (by omega : j < 64)
    have hpl : 4 * j < 256 := by omega
    have HD : Hid (bits BinOp.and IntKind.u64 (wd e0 e1 e2 e3 (4 * j / 64) / 2 ^ (4 * j % 64)) 15 = ((((val e0 e1 e2 e3).toNat / 16 ^ j % 16 : Nat)) : Int)) := nib_ok he j (by omega)
    have HES : Hid ((val e0 e1 e2 e3).toNat / 16 ^ j = 16 * ((val e0 e1 e2 e3).toNat / 16 ^ (j + 1)) + (val e0 e1 e2 e3).toNat / 16 ^ j % 16) := exp_step _ _
    obtain ⟨m, hm⟩ : ∃ m, (val e0 e1 e2 e3).toNat / 16 ^ (j + 1) = m := ⟨_, rfl⟩
    rw [hm] at HT HES
    obtain ⟨d, hd⟩ : ∃ d, (val e0 e1 e2 e3).toNat / 16 ^ j % 16 = d := ⟨_, rfl⟩
    have hd16 : d < 16 := by rw [← hd]; exact Nat.mod_lt _ (by decide)
    rw [hd] at HD HES
    clear hd hm hj1 hj2
    obtain ⟨pl, hplv⟩ : ∃ p, 4 * j = p := ⟨_, rfl⟩
    have HPL : Hid (4 * j = pl ∧ 4 * (j + 1) = pl4) := ⟨hplv, HJ.out⟩
    rw [hplv] at hsub hpl HD
    clear hplv HJ
    go_wp2
    go_loopw [33] (fun u33 wr => ∃ (i : Nat) (s0 s1 s2 s3 : Int), i ≤ 4 ∧ u33 = .int .i64 i ∧ PW w wr n b7 e0 e1 e2 e3 T s0 s1 s2 s3 ∧ Hid (FMod ((val x0 x1 x2 x3) ^ (2 ^ i * m) * B256) s0 s1 s2 s3)) (fun u33 _ => 4 - (intOf u33).toNat)
    case atStart => exact ⟨0, s0, s1, s2, s3, by omega, rfl, HP, by rw [Nat.pow_zero, Nat.one_mul]; exact HT.out.2⟩
    case round =>
      obtain ⟨i, s0, s1, s2, s3, hi, rfl, HP, HS⟩ := hrel
      obtain ⟨⟨ls, a0, a1, a2, a3⟩, b0, b1, b2, b3⟩ := HP.2.2.2.1
      by_cases hlt : i < 4
      · have hi0 : (i : Int) < 4 := by omega
        go_wp2_with fail
        refine (product_any _ _ _ _ _ _ _ _ HS.out.1 HS.out.1 _).mono ?_
        rintro e wy ⟨r0, r1, r2, r3, rfl, HR, HX⟩
        have HP2 := HP.ext HX
        clear HX ls a0 a1 a2 a3 b0 b1 b2 b3 HP
        obtain ⟨⟨ls, a0, a1, a2, a3⟩, b0, b1, b2, b3⟩ := HP2.2.2.2.1
        go_wp2
        go_roundw
        case rel => exact ⟨i + 1, r0, r1, r2, r3, hlt, by go_num, HP2.set hb7 HB7, by rw [show 2 ^ (i + 1) * m = 2 ^ i * m + 2 ^ i * m from by rw [Nat.pow_succ, Nat.mul_right_comm]; omega]; exact sq_step HS.out HR.out⟩
        case measure => simp [intOf]; omega
      · obtain rfl : i = 4 := by omega
        have ge := row_wd HP.1 (pl / 64) (by omega)
        have HS4 : Hid (FMod ((val x0 x1 x2 x3) ^ (16 * m) * B256) s0 s1 s2 s3) := HS.out
        generalize wd e0 e1 e2 e3 (pl / 64) = ev at *
        have hs := HS4.out.1
        have ht0 := HP.2.2.1.2 (d * 4) (by omega)
        have ht1 := HP.2.2.1.2 (d * 4 + 1) (by omega)
        have ht2 := HP.2.2.1.2 (d * 4 + 2) (by omega)
        have ht3 := HP.2.2.1.2 (d * 4 + 3) (by omega)
        have HDP : Hid (FMod ((val x0 x1 x2 x3) ^ d * B256) (T (d * 4)) (T (d * 4 + 1)) (T (d * 4 + 2)) (T (d * 4 + 3))) := by
          have h := HT.out.1 d hd16
          rwa [Nat.mul_comm 4 d] at h
        generalize T (d * 4) = t0 at *
        generalize T (d * 4 + 1) = t1 at *
        generalize T (d * 4 + 2) = t2 at *
        generalize T (d * 4 + 3) = t3 at *
        replace ht0 := ht0.1
        replace ht1 := ht1.1
        replace ht2 := ht2.1
        replace ht3 := ht3.1
        have hdd := HD.out
        have HBz : SizeLe w (n + 1 + 1) := by unfold SizeLe; omega
        by_cases hp0 : pl = 0
        · have HP0 : Hid (pl = 0) := hp0
          have hp1 : ¬ (0 : Int) < (pl : Int) := by omega
          clear hp0
          by_cases hd0 : d = 0
          · subst hd0
            have HFx : Hid (FMod ((val x0 x1 x2 x3) ^ ((val e0 e1 e2 e3).toNat / 16 ^ j) * B256) s0 s1 s2 s3) := by rw [HES.out, Nat.add_zero]; exact HS4.out
            go_wp2_with fail
            refine (product_any _ _ _ _ 1 0 0 0 HFx.out.1 ⟨lim_of _ rfl, lim_of _ rfl, lim_of _ rfl, lim_of _ rfl⟩ _).mono ?_
            rintro e wz ⟨q0, q1, q2, q3, rfl, HQ, HX3⟩
            have HP5 := (HP).ext HX3
            have HF5 : Hid (FMod ((val x0 x1 x2 x3) ^ ((val e0 e1 e2 e3).toNat)) q0 q1 q2 q3) := by
              have h := unscaled HFx.out (by have h2 := HQ.out; rwa [show val 1 0 0 0 = 1 from by decide] at h2)
              have hj : j = 0 := by have := HPL.out; have := HP0.out; omega
              rw [hj, Nat.pow_zero, Nat.div_one] at h
              exact h
            clear HX3
            obtain ⟨⟨lz, c0, c1, c2, c3⟩, f0, f1, f2, f3⟩ := HP5.2.1
            have HE5 : Hid (Ext w wz) := HP5.2.2.2.2
            go_wp2
            simp only [Exit.jump]
            refine bodyPost_ret (v := .agg #[.int .u64 q0, .int .u64 q1, .int .u64 q2, .int .u64 q3]) (by simp [results, Tryd.results29, go_sem, c0, c1, c2, c3]) rfl ⟨q0, q1, q2, q3, rfl, HF5, ?_⟩
            exact Ext.st HBz (Ext.st HBz (Ext.st HBz (Ext.st HBz HE5.out)))
          · have hd1 : (d : Int) ≠ 0 := by omega
            have hd2 : (d : Int) < 16 := by omega
            have HM : Hid (∀ wx, Calls Tryd.prog 28 #[.agg #[.int .u64 s0, .int .u64 s1, .int .u64 s2, .int .u64 s3], .agg #[.int .u64 t0, .int .u64 t1, .int .u64 t2, .int .u64 t3]] wx fun e w' => ∃ r0 r1 r2 r3 : Int, e = .returned (.agg #[.int .u64 r0, .int .u64 r1, .int .u64 r2, .int .u64 r3]) ∧ Hid (FMod ((val x0 x1 x2 x3) ^ ((val e0 e1 e2 e3).toNat / 16 ^ j) * B256) r0 r1 r2 r3) ∧ Ext wx w') := fun wx => (product_any _ _ _ _ _ _ _ _ hs HDP.out.1 wx).mono fun _ _ ⟨r0, r1, r2, r3, h1, h2, h3⟩ => ⟨r0, r1, r2, r3, h1, by rw [HES.out]; exact mul_step HS4.out HDP.out h2.out, h3⟩
            go_wp2_with fail
            go_region_with (go_at_call 28; refine (HM.out _).mono ?_; rintro e wy ⟨r0, r1, r2, r3, rfl, HR, HX⟩; have HP2 := HP.ext (Ext.trans (Ext.drew (Ext.refl _)) HX); clear ls a0 a1 a2 a3 b0 b1 b2 b3; obtain ⟨⟨ls, a0, a1, a2, a3⟩, b0, b1, b2, b3⟩ := HP2.2.2.2.1)
            all_goals
              go_wp2_with fail
              refine (product_any _ _ _ _ 1 0 0 0 HR.out.1 ⟨lim_of _ rfl, lim_of _ rfl, lim_of _ rfl, lim_of _ rfl⟩ _).mono ?_
              rintro e wz ⟨q0, q1, q2, q3, rfl, HQ, HX3⟩
              have HP5 := (HP2.set hb7 HB7).ext HX3
              have HF5 : Hid (FMod ((val x0 x1 x2 x3) ^ ((val e0 e1 e2 e3).toNat)) q0 q1 q2 q3) := by
                have h := unscaled HR.out (by have h2 := HQ.out; rwa [show val 1 0 0 0 = 1 from by decide] at h2)
                have hj : j = 0 := by have := HPL.out; have := HP0.out; omega
                rw [hj, Nat.pow_zero, Nat.div_one] at h
                exact h
              clear HX3
              obtain ⟨⟨lz, c0, c1, c2, c3⟩, f0, f1, f2, f3⟩ := HP5.2.1
              have HE5 : Hid (Ext w wz) := HP5.2.2.2.2
              go_wp2
              simp only [Exit.jump]
              refine bodyPost_ret (v := .agg #[.int .u64 q0, .int .u64 q1, .int .u64 q2, .int .u64 q3]) (by simp [results, Tryd.results29, go_sem, c0, c1, c2, c3]) rfl ⟨q0, q1, q2, q3, rfl, HF5, ?_⟩
              exact Ext.st HBz (Ext.st HBz (Ext.st HBz (Ext.st HBz HE5.out)))
        · have hp1 : (0 : Int) < (pl : Int) := by omega
          by_cases hd0 : d = 0
          · subst hd0
            have HFx : Hid (FMod ((val x0 x1 x2 x3) ^ ((val e0 e1 e2 e3).toNat / 16 ^ j) * B256) s0 s1 s2 s3) := by rw [HES.out, Nat.add_zero]; exact HS4.out
            go_wp2_with fail
            go_step3
            refine ⟨rfl, ⟨j, pl, b7, T, s0, s1, s2, s3, _, _, _, _, _, _, _, _, _, _, _, _, _, _, _, _, _, _, _, _, _, _, _, _, _, _, _, _, _, _, _, _, _, _, _, _, _, _, _, _, _, _, _, _, _, _, _, _, _, _, _, rfl, HPL.out.1, ?_, ?_, hb7, HB7, HP, ⟨HT.out.1, HFx.out⟩⟩, ?_⟩
            · have := HPL.out; omega
            · have := hjl.out; omega
            · have := HPL.out
              simp [intOf]
              omega
          · have hd1 : (d : Int) ≠ 0 := by omega
            have hd2 : (d : Int) < 16 := by omega
            have HM : Hid (∀ wx, Calls Tryd.prog 28 #[.agg #[.int .u64 s0, .int .u64 s1, .int .u64 s2, .int .u64 s3], .agg #[.int .u64 t0, .int .u64 t1, .int .u64 t2, .int .u64 t3]] wx fun e w' => ∃ r0 r1 r2 r3 : Int, e = .returned (.agg #[.int .u64 r0, .int .u64 r1, .int .u64 r2, .int .u64 r3]) ∧ Hid (FMod ((val x0 x1 x2 x3) ^ ((val e0 e1 e2 e3).toNat / 16 ^ j) * B256) r0 r1 r2 r3) ∧ Ext wx w') := fun wx => (product_any _ _ _ _ _ _ _ _ hs HDP.out.1 wx).mono fun _ _ ⟨r0, r1, r2, r3, h1, h2, h3⟩ => ⟨r0, r1, r2, r3, h1, by rw [HES.out]; exact mul_step HS4.out HDP.out h2.out, h3⟩
            go_wp2_with fail
            go_region_with (go_at_call 28; refine (HM.out _).mono ?_; rintro e wy ⟨r0, r1, r2, r3, rfl, HR, HX⟩; have HP2 := HP.ext (Ext.trans (Ext.drew (Ext.refl _)) HX); clear ls a0 a1 a2 a3 b0 b1 b2 b3; obtain ⟨⟨ls, a0, a1, a2, a3⟩, b0, b1, b2, b3⟩ := HP2.2.2.2.1)
            all_goals
              go_wp2_with fail
              go_step3
              refine ⟨rfl, ⟨j, pl, b7, T, r0, r1, r2, r3, _, _, _, _, _, _, _, _, _, _, _, _, _, _, _, _, _, _, _, _, _, _, _, _, _, _, _, _, _, _, _, _, _, _, _, _, _, _, _, _, _, _, _, _, _, _, _, _, _, _, _, rfl, HPL.out.1, ?_, ?_, hb7, HB7, HP2.set hb7 HB7, ⟨HT.out.1, HR.out⟩⟩, ?_⟩
              · have := HPL.out; omega
              · have := hjl.out; omega
              · have := HPL.out
                simp [intOf]
                omega
  · intro pass
    have HP0 : PA w ((((w.alloc (.cells #[.int .u64 x0, .int .u64 x1, .int .u64 x2, .int .u64 x3] 24)).alloc (.cells #[.int .u64 e0, .int .u64 e1, .int .u64 e2, .int .u64 e3] 24)).alloc (.cells #[.int .u64 0, .int .u64 0, .int .u64 0, .int .u64 0] 24)).alloc (.cells #[.int .u64 0, .int .u64 0, .int .u64 0, .int .u64 0, .int .u64 0, .int .u64 0, .int .u64 0, .int .u64 0, .int .u64 0, .int .u64 0, .int .u64 0, .int .u64 0, .int .u64 0, .int .u64 0, .int .u64 0, .int .u64 0, .int .u64 0, .int .u64 0, .int .u64 0, .int .u64 0, .int .u64 0, .int .u64 0, .int .u64 0, .int .u64 0, .int .u64 0, .int .u64 0, .int .u64 0, .int .u64 0, .int .u64 0, .int .u64 0, .int .u64 0, .int .u64 0, .int .u64 0, .int .u64 0, .int .u64 0, .int .u64 0, .int .u64 0, .int .u64 0, .int .u64 0, .int .u64 0, .int .u64 0, .int .u64 0, .int .u64 0, .int .u64 0, .int .u64 0, .int .u64 0, .int .u64 0, .int .u64 0, .int .u64 0, .int .u64 0, .int .u64 0, .int .u64 0, .int .u64 0, .int .u64 0, .int .u64 0, .int .u64 0, .int .u64 0, .int .u64 0, .int .u64 0, .int .u64 0, .int .u64 0, .int .u64 0, .int .u64 0, .int .u64 0] 44)) n x0 x1 x2 x3 e0 e1 e2 e3 (fun _ => 0) := hn ▸ PA.new w x0 x1 x2 x3 e0 e1 e2 e3
    have HN3 : SizeLe w (n + 1 + 1 + 1) := by unfold SizeLe; omega
    have G0 := hG.ext HP0.2.2.2.2
    go_wp2_with fail
    generalize (((w.alloc (.cells #[.int .u64 x0, .int .u64 x1, .int .u64 x2, .int .u64 x3] 24)).alloc (.cells #[.int .u64 e0, .int .u64 e1, .int .u64 e2, .int .u64 e3] 24)).alloc (.cells #[.int .u64 0, .int .u64 0, .int .u64 0, .int .u64 0] 24)).alloc (.cells #[.int .u64 0, .int .u64 0, .int .u64 0, .int .u64 0, .int .u64 0, .int .u64 0, .int .u64 0, .int .u64 0, .int .u64 0, .int .u64 0, .int .u64 0, .int .u64 0, .int .u64 0, .int .u64 0, .int .u64 0, .int .u64 0, .int .u64 0, .int .u64 0, .int .u64 0, .int .u64 0, .int .u64 0, .int .u64 0, .int .u64 0, .int .u64 0, .int .u64 0, .int .u64 0, .int .u64 0, .int .u64 0, .int .u64 0, .int .u64 0, .int .u64 0, .int .u64 0, .int .u64 0, .int .u64 0, .int .u64 0, .int .u64 0, .int .u64 0, .int .u64 0, .int .u64 0, .int .u64 0, .int .u64 0, .int .u64 0, .int .u64 0, .int .u64 0, .int .u64 0, .int .u64 0, .int .u64 0, .int .u64 0, .int .u64 0, .int .u64 0, .int .u64 0, .int .u64 0, .int .u64 0, .int .u64 0, .int .u64 0, .int .u64 0, .int .u64 0, .int .u64 0, .int .u64 0, .int .u64 0, .int .u64 0, .int .u64 0, .int .u64 0, .int .u64 0] 44) = W4 at *
    refine (scaled_any 1 0 0 0 ⟨lim_of _ rfl, lim_of _ rfl, lim_of _ rfl, lim_of _ rfl⟩ _ G0).mono ?_
    rintro e wx ⟨p0, p1, p2, p3, rfl, HR, HX⟩
    have HP1 := HP0.ext HX
    have HT1 : Hid (TabP (val x0 x1 x2 x3) (put4 (fun _ => 0) (4 * 0) p0 p1 p2 p3) 1) := TabP.step (m := 0) (fun i hi => by omega) (by have h := HR.out; rw [show val 1 0 0 0 = 1 from by decide] at h; rwa [Int.pow_zero])
    clear HX HP0 G0 HR
    obtain ⟨w00, w01⟩ := HP1.2.2.2.1.2 0 (by omega)
    obtain ⟨w10, w11⟩ := HP1.2.2.2.1.2 1 (by omega)
    obtain ⟨w20, w21⟩ := HP1.2.2.2.1.2 2 (by omega)
    obtain ⟨w30, w31⟩ := HP1.2.2.2.1.2 3 (by omega)
    have HP2 := HP1.put (o := 0) (by omega) HN3 p0 p1 p2 p3
    obtain ⟨lx, x00, x01, x02, x03⟩ := HP1.1
    have hne : n + 1 + 1 + 1 ≠ n := by omega
    go_wp2_with fail
    clear w00 w01 w10 w11 w20 w21 w30 w31 lx x00 x01 x02 x03 HP1
    refine (scaled_any _ _ _ _ hx _ (hG.ext HP2.2.2.2.2)).mono ?_
    rintro e wy ⟨q0, q1, q2, q3, rfl, HR, HX⟩
    have HP3 := HP2.ext HX
    have HT2 : Hid (TabP (val x0 x1 x2 x3) (put4 (put4 (fun _ => 0) (4 * 0) p0 p1 p2 p3) (4 * 1) q0 q1 q2 q3) 2) := TabP.step HT1.out (by have h := HR.out; rwa [Int.pow_succ, Int.pow_zero, Int.one_mul])
    clear HX HP2 HR HT1
    obtain ⟨w00, w01⟩ := HP3.2.2.2.1.2 4 (by omega)
    obtain ⟨w10, w11⟩ := HP3.2.2.2.1.2 5 (by omega)
    obtain ⟨w20, w21⟩ := HP3.2.2.2.1.2 6 (by omega)
    obtain ⟨w30, w31⟩ := HP3.2.2.2.1.2 7 (by omega)
    have HP4 := HP3.put (o := 4) (by omega) HN3 q0 q1 q2 q3
    go_wp2
    go_loopw [6] (fun u6 wr => ∃ (k : Nat) (T : Nat → Int), 2 ≤ k ∧ k ≤ 16 ∧ u6 = .int .i64 k ∧ PA w wr n x0 x1 x2 x3 e0 e1 e2 e3 T ∧ Hid (TabP (val x0 x1 x2 x3) T k)) (fun u6 _ => 16 - (intOf u6).toNat)
    case atStart => exact ⟨2, _, by omega, by omega, rfl, HP4, HT2⟩
    case round =>
      obtain ⟨k, T, hk2, hk, rfl, HP, HT⟩ := hrel
      clear w00 w01 w10 w11 w20 w21 w30 w31 HP3 HP4 HT2
      by_cases hlt : k < 16
      · obtain ⟨k1, hk1⟩ : ∃ k1, k = k1 + 1 := ⟨k - 1, by omega⟩
        have hki : (k : Int) < 16 := by omega
        have hk0 : (0 : Int) ≤ (k : Int) := by omega
        have hsub : IntKind.i64.wrap ((k : Int) - 1) = (k1 : Int) := by rw [IntKind.wrap_i64]; omega
        have hk1i : (k1 : Int) < 16 := by omega
        have hk10 : (0 : Int) ≤ (k1 : Int) := by omega
        obtain ⟨a00, _⟩ := HP.2.2.2.1.2 (k1 * 4) (by omega)
        obtain ⟨a10, _⟩ := HP.2.2.2.1.2 (k1 * 4 + 1) (by omega)
        obtain ⟨a20, _⟩ := HP.2.2.2.1.2 (k1 * 4 + 2) (by omega)
        obtain ⟨a30, _⟩ := HP.2.2.2.1.2 (k1 * 4 + 3) (by omega)
        obtain ⟨b00, _⟩ := HP.2.2.2.1.2 4 (by omega)
        obtain ⟨b10, _⟩ := HP.2.2.2.1.2 5 (by omega)
        obtain ⟨b20, _⟩ := HP.2.2.2.1.2 6 (by omega)
        obtain ⟨b30, _⟩ := HP.2.2.2.1.2 7 (by omega)
        have HA : Hid (FMod ((val x0 x1 x2 x3) ^ k1 * B256) (T (k1 * 4)) (T (k1 * 4 + 1)) (T (k1 * 4 + 2)) (T (k1 * 4 + 3))) := by
          have h := HT.out k1 (by omega)
          rwa [Nat.mul_comm 4 k1] at h
        have HBq : Hid (FMod ((val x0 x1 x2 x3) ^ 1 * B256) (T 4) (T 5) (T 6) (T 7)) := HT.out 1 (by omega)
        have HM : Hid (∀ wx, Calls Tryd.prog 28 #[.agg #[.int .u64 (T (k1 * 4)), .int .u64 (T (k1 * 4 + 1)), .int .u64 (T (k1 * 4 + 2)), .int .u64 (T (k1 * 4 + 3))], .agg #[.int .u64 (T 4), .int .u64 (T 5), .int .u64 (T 6), .int .u64 (T 7)]] wx fun e w' => ∃ r0 r1 r2 r3 : Int, e = .returned (.agg #[.int .u64 r0, .int .u64 r1, .int .u64 r2, .int .u64 r3]) ∧ Hid (FMod ((val x0 x1 x2 x3) ^ k * B256) r0 r1 r2 r3) ∧ Ext wx w') := fun wx => (product_any _ _ _ _ _ _ _ _ HA.out.1 HBq.out.1 wx).mono fun _ _ ⟨r0, r1, r2, r3, h1, h2, h3⟩ => ⟨r0, r1, r2, r3, h1, by rw [hk1]; exact mul_step HA.out HBq.out h2.out, h3⟩
        clear HA HBq hk1
        generalize T (k1 * 4) = ta at *
        generalize T (k1 * 4 + 1) = tb at *
        generalize T (k1 * 4 + 2) = tc at *
        generalize T (k1 * 4 + 3) = td at *
        generalize T 4 = te at *
        generalize T 5 = tf at *
        generalize T 6 = tg at *
        generalize T 7 = th at *
        go_wp2_with fail
        go_region_with (go_at_call 28; refine (HM.out _).mono ?_; rintro e wz ⟨r0, r1, r2, r3, rfl, HR, HX⟩; have HP5 := HP.ext (Ext.trans (Ext.drew (Ext.refl _)) HX); clear a00 a10 a20 a30 b00 b10 b20 b30; obtain ⟨w00, w01⟩ := HP5.2.2.2.1.2 (k * 4) (by omega); obtain ⟨w10, w11⟩ := HP5.2.2.2.1.2 (k * 4 + 1) (by omega); obtain ⟨w20, w21⟩ := HP5.2.2.2.1.2 (k * 4 + 2) (by omega); obtain ⟨w30, w31⟩ := HP5.2.2.2.1.2 (k * 4 + 3) (by omega))
        all_goals
          go_wp2
          go_roundw
          case rel => exact ⟨k + 1, _, by omega, hlt, by go_num, HP5.put (o := k * 4) (by omega) HN3 r0 r1 r2 r3, by rw [Nat.mul_comm k 4]; exact TabP.step HT.out HR.out⟩
          case measure => simp [intOf]; omega
      · obtain rfl : k = 16 := by omega
        obtain ⟨w00, _⟩ := HP.2.2.2.1.2 0 (by omega)
        obtain ⟨w10, _⟩ := HP.2.2.2.1.2 1 (by omega)
        obtain ⟨w20, _⟩ := HP.2.2.2.1.2 2 (by omega)
        obtain ⟨w30, _⟩ := HP.2.2.2.1.2 3 (by omega)
        have HT0 : Hid (FMod ((val x0 x1 x2 x3) ^ ((val e0 e1 e2 e3).toNat / 16 ^ 64) * B256) (T 0) (T 1) (T 2) (T 3)) := by
          rw [Nat.div_eq_of_lt (by have := val_bd he; unfold B256 at this; rw [show (16 : Nat) ^ 64 = 115792089237316195423570985008687907853269984665640564039457584007913129639936 from by decide]; omega)]
          exact HT.out 0 (by omega)
        have hl7 := HP.2.2.2.1.1
        have h7 : SizeLe w wr.heap.size := HP.2.2.2.2.size
        go_wp2_with fail
        go_step3
        rename_i hK
        refine hK _ _ (pass _ _ ⟨64, 256, wr.heap.size, T, T 0, T 1, T 2, T 3, _, _, _, _, _, _, _, _, _, _, _, _, _, _, _, _, _, _, _, _, _, _, _, _, _, _, _, _, _, _, _, _, _, _, _, _, _, _, _, _, _, _, _, _, _, _, _, _, _, _, _, rfl, rfl, by omega, by omega, hl7, h7, ⟨HP.2.1.ext ((Ext.refl _).alloc _), HP.2.2.1.ext ((Ext.refl _).alloc _), HP.2.2.2.1.ext ((Ext.refl _).alloc _), RowF.new _ _ _ _ _, HP.2.2.2.2.alloc _⟩, ⟨HT.out, HT0.out⟩⟩)
end Go.Proofs.YtmpcoohinppdhaaDoor
