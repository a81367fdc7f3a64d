/-
  scalar.power, called: the power modulo q; nothing old is turned.
-/
import Derived.Test.YtnaiccfdbapdpaaDoorSp
namespace Go.Proofs.YtnaiccfdbapdpaaDoor
open Go.RowKit
set_option maxHeartbeats 2000000 in
theorem power_any (x0 x1 x2 x3 e0 e1 e2 e3 : Int) (hx : Lim4 x0 x1 x2 x3) (he : Lim4 e0 e1 e2 e3) (w : World) (hG : Gl w) :
    Calls Tryd.prog 62 #[.agg #[.int .u64 x0, .int .u64 x1, .int .u64 x2, .int .u64 x3], .agg #[.int .u64 e0, .int .u64 e1, .int .u64 e2, .int .u64 e3]] w fun e w' => ∃ r0 r1 r2 r3 : Int, e = .returned (.agg #[.int .u64 r0, .int .u64 r1, .int .u64 r2, .int .u64 r3]) ∧ Hid (QMod ((val x0 x1 x2 x3) ^ (val e0 e1 e2 e3).toNat) r0 r1 r2 r3) ∧ Ext w w' := by
  have HP0 : PA w ((((w.alloc (.cells #[.int .u64 x0, .int .u64 x1, .int .u64 x2, .int .u64 x3] 26)).alloc (.cells #[.int .u64 e0, .int .u64 e1, .int .u64 e2, .int .u64 e3] 26)).alloc (.cells #[.int .u64 0, .int .u64 0, .int .u64 0, .int .u64 0] 26)).alloc (.cells #[.int .u64 1, .int .u64 0, .int .u64 0, .int .u64 0, .int .u64 0, .int .u64 0, .int .u64 0, .int .u64 0, .int .u64 0, .int .u64 0, .int .u64 0, .int .u64 0, .int .u64 0, .int .u64 0, .int .u64 0, .int .u64 0, .int .u64 0, .int .u64 0, .int .u64 0, .int .u64 0, .int .u64 0, .int .u64 0, .int .u64 0, .int .u64 0, .int .u64 0, .int .u64 0, .int .u64 0, .int .u64 0, .int .u64 0, .int .u64 0, .int .u64 0, .int .u64 0, .int .u64 0, .int .u64 0, .int .u64 0, .int .u64 0, .int .u64 0, .int .u64 0, .int .u64 0, .int .u64 0, .int .u64 0, .int .u64 0, .int .u64 0, .int .u64 0, .int .u64 0, .int .u64 0, .int .u64 0, .int .u64 0, .int .u64 0, .int .u64 0, .int .u64 0, .int .u64 0, .int .u64 0, .int .u64 0, .int .u64 0, .int .u64 0, .int .u64 0, .int .u64 0, .int .u64 0, .int .u64 0, .int .u64 0, .int .u64 0, .int .u64 0, .int .u64 0] 89)) w.heap.size x0 x1 x2 x3 e0 e1 e2 e3 (put4 (fun _ => 0) (4 * 0) 1 0 0 0) := PA.new1 w x0 x1 x2 x3 e0 e1 e2 e3
  have HN3 : SizeLe w (w.heap.size + 1 + 1 + 1) := by unfold SizeLe; omega
  have HT1 : Hid (TabP (val x0 x1 x2 x3) (put4 (fun _ => 0) (4 * 0) 1 0 0 0) 1) := TabP.step (m := 0) (fun i hi => by omega) (pow_none _)
  go_enter Tryd.func62, Tryd.ntmps62
  go_wp2
  generalize (((w.alloc (.cells #[.int .u64 x0, .int .u64 x1, .int .u64 x2, .int .u64 x3] 26)).alloc (.cells #[.int .u64 e0, .int .u64 e1, .int .u64 e2, .int .u64 e3] 26)).alloc (.cells #[.int .u64 0, .int .u64 0, .int .u64 0, .int .u64 0] 26)).alloc (.cells #[.int .u64 1, .int .u64 0, .int .u64 0, .int .u64 0, .int .u64 0, .int .u64 0, .int .u64 0, .int .u64 0, .int .u64 0, .int .u64 0, .int .u64 0, .int .u64 0, .int .u64 0, .int .u64 0, .int .u64 0, .int .u64 0, .int .u64 0, .int .u64 0, .int .u64 0, .int .u64 0, .int .u64 0, .int .u64 0, .int .u64 0, .int .u64 0, .int .u64 0, .int .u64 0, .int .u64 0, .int .u64 0, .int .u64 0, .int .u64 0, .int .u64 0, .int .u64 0, .int .u64 0, .int .u64 0, .int .u64 0, .int .u64 0, .int .u64 0, .int .u64 0, .int .u64 0, .int .u64 0, .int .u64 0, .int .u64 0, .int .u64 0, .int .u64 0, .int .u64 0, .int .u64 0, .int .u64 0, .int .u64 0, .int .u64 0, .int .u64 0, .int .u64 0, .int .u64 0, .int .u64 0, .int .u64 0, .int .u64 0, .int .u64 0, .int .u64 0, .int .u64 0, .int .u64 0, .int .u64 0, .int .u64 0, .int .u64 0, .int .u64 0, .int .u64 0] 89) = W4 at *
  generalize hn : w.heap.size = n at *
  go_loopw [6] (fun u6 wr => ∃ (k : Nat) (T : Nat → Int), 1 ≤ k ∧ k ≤ 16 ∧ u6 = .int .i64 k ∧ PA w wr n x0 x1 x2 x3 e0 e1 e2 e3 T ∧ Hid (TabP (val x0 x1 x2 x3) T k)) (fun u6 _ => 16 - (intOf u6).toNat)
  case atStart => exact ⟨1, _, by omega, by omega, rfl, HP0, HT1⟩
  case round =>
    obtain ⟨k, T, hk2, hk, rfl, HP, HT⟩ := hrel
    clear HP0 HT1
    by_cases hlt : k < 16
    · obtain ⟨k1, hk1⟩ : ∃ k1, k = k1 + 1 := ⟨k - 1, by omega⟩
      have hki : (k : Int) < 16 := by omega
      have hk0 : (0 : Int) ≤ (k : Int) := by omega
      have hsub : IntKind.i64.wrap ((k : Int) - 1) = (k1 : Int) := by rw [IntKind.wrap_i64]; omega
      have hk1i : (k1 : Int) < 16 := by omega
      have hk10 : (0 : Int) ≤ (k1 : Int) := by omega
      obtain ⟨lx, b00, b10, b20, b30⟩ := HP.1
      obtain ⟨a00, _⟩ := HP.2.2.2.1.2 (k1 * 4) (by omega)
      obtain ⟨a10, _⟩ := HP.2.2.2.1.2 (k1 * 4 + 1) (by omega)
      obtain ⟨a20, _⟩ := HP.2.2.2.1.2 (k1 * 4 + 2) (by omega)
      obtain ⟨a30, _⟩ := HP.2.2.2.1.2 (k1 * 4 + 3) (by omega)
      have HA : Hid (QMod ((val x0 x1 x2 x3) ^ k1) (T (k1 * 4)) (T (k1 * 4 + 1)) (T (k1 * 4 + 2)) (T (k1 * 4 + 3))) := by
        have h := HT.out k1 (by omega)
        rwa [Nat.mul_comm 4 k1] at h
      have HM : Hid (∀ wx, Gl wx → Calls Tryd.prog 28 #[.agg #[.int .u64 (T (k1 * 4)), .int .u64 (T (k1 * 4 + 1)), .int .u64 (T (k1 * 4 + 2)), .int .u64 (T (k1 * 4 + 3))], .agg #[.int .u64 x0, .int .u64 x1, .int .u64 x2, .int .u64 x3]] wx fun e w' => ∃ r0 r1 r2 r3 : Int, e = .returned (.agg #[.int .u64 r0, .int .u64 r1, .int .u64 r2, .int .u64 r3]) ∧ Hid (QMod ((val x0 x1 x2 x3) ^ k) r0 r1 r2 r3) ∧ Ext wx w') := fun wx hg => (smul_any _ _ _ _ _ _ _ _ HA.out.1 hx wx hg).mono fun _ _ ⟨r0, r1, r2, r3, h1, h2, h3⟩ => ⟨r0, r1, r2, r3, h1, by rw [hk1]; exact mul_step1 rfl HA.out h2.out, h3⟩
      have G1 := hG.ext HP.2.2.2.2
      clear HA hk1
      generalize T (k1 * 4) = ta at *
      generalize T (k1 * 4 + 1) = tb at *
      generalize T (k1 * 4 + 2) = tc at *
      generalize T (k1 * 4 + 3) = td at *
      go_wp2_with fail
      go_region_with (go_at_call 28; refine (HM.out _ (G1.ext (Ext.drew (Ext.refl _)))).mono ?_; rintro e wz ⟨r0, r1, r2, r3, rfl, HR, HX⟩; have HP5 := HP.ext (Ext.trans (Ext.drew (Ext.refl _)) HX); clear a00 a10 a20 a30 b00 b10 b20 b30; obtain ⟨w00, w01⟩ := HP5.2.2.2.1.2 (k * 4) (by omega); obtain ⟨w10, w11⟩ := HP5.2.2.2.1.2 (k * 4 + 1) (by omega); obtain ⟨w20, w21⟩ := HP5.2.2.2.1.2 (k * 4 + 2) (by omega); obtain ⟨w30, w31⟩ := HP5.2.2.2.1.2 (k * 4 + 3) (by omega))
      all_goals
        go_wp2
        go_roundw
        case rel => exact ⟨k + 1, _, by omega, hlt, by go_num, HP5.put (o := k * 4) (by omega) HN3 r0 r1 r2 r3, by rw [Nat.mul_comm k 4]; exact TabP.step HT.out HR.out⟩
        case measure => simp [intOf]; omega
    · have HK : Hid (k = 16) := (by omega : k = 16)
      have hnl : ¬ (k : Int) < 16 := by omega
      have hkd : decide ((k : Int) < 16) = false := by simpa using hnl
      obtain ⟨w00, _⟩ := HP.2.2.2.1.2 0 (by omega)
      obtain ⟨w10, _⟩ := HP.2.2.2.1.2 1 (by omega)
      obtain ⟨w20, _⟩ := HP.2.2.2.1.2 2 (by omega)
      obtain ⟨w30, _⟩ := HP.2.2.2.1.2 3 (by omega)
      have HT0 : Hid (QMod ((val x0 x1 x2 x3) ^ ((val e0 e1 e2 e3).toNat / 16 ^ 64)) (T 0) (T 1) (T 2) (T 3)) := by
        rw [Nat.div_eq_of_lt (by have := val_bd he; unfold B256 at this; rw [show (16 : Nat) ^ 64 = 115792089237316195423570985008687907853269984665640564039457584007913129639936 from by decide]; omega)]
        exact HT.out 0 (by omega)
      have hb7 : n + 1 + 1 + 1 < wr.heap.size := HP.2.2.2.1.1
      have HB7 : SizeLe w wr.heap.size := HP.2.2.2.2.size
      have HW : PW w (wr.alloc (.cells #[.int .u64 (T 0), .int .u64 (T 1), .int .u64 (T 2), .int .u64 (T 3)] 26)) n wr.heap.size e0 e1 e2 e3 T (T 0) (T 1) (T 2) (T 3) := ⟨HP.2.1.ext ((Ext.refl _).alloc _), HP.2.2.1.ext ((Ext.refl _).alloc _), HP.2.2.2.1.ext ((Ext.refl _).alloc _), RowF.new _ _ _ _ _, HP.2.2.2.2.alloc _⟩
      have HBz : SizeLe w (n + 1 + 1) := by unfold SizeLe; omega
      go_wp2_with fail
      clear w00 w10 w20 w30
      generalize wr.alloc (.cells #[.int .u64 (T 0), .int .u64 (T 1), .int .u64 (T 2), .int .u64 (T 3)] 26) = W5 at *
      generalize wr.heap.size = b7 at *
      go_loopw [8] (fun u8 wr => ∃ (j : Nat) (s0 s1 s2 s3 : Int), j ≤ 64 ∧ u8 = .int .i64 (4 * (j : Int) - 4) ∧ PW w wr n b7 e0 e1 e2 e3 T s0 s1 s2 s3 ∧ Hid (QMod ((val x0 x1 x2 x3) ^ ((val e0 e1 e2 e3).toNat / 16 ^ j)) s0 s1 s2 s3)) (fun u8 _ => (intOf u8 + 4).toNat)
      case atStart => exact ⟨64, T 0, T 1, T 2, T 3, by omega, by go_num, HW, HT0⟩
      case round =>
        clear HP HW HT0
        obtain ⟨j, s0, s1, s2, s3, hj, rfl, HP, HS⟩ := hrel
        by_cases hj0 : j = 0
        · subst hj0
          have hz : (4 * ((0 : Nat) : Int) - 4) = -4 := by omega
          rw [hz]
          obtain ⟨⟨ls, a0, a1, a2, a3⟩, b0, b1, b2, b3⟩ := HP.2.2.2.1
          obtain ⟨⟨lz, c0, c1, c2, c3⟩, f0, f1, f2, f3⟩ := HP.2.1
          have HE5 : Hid (Ext w wr) := HP.2.2.2.2
          have HF5 : Hid (QMod ((val x0 x1 x2 x3) ^ ((val e0 e1 e2 e3).toNat)) s0 s1 s2 s3) := by
            have h := HS.out
            rwa [Nat.pow_zero, Nat.div_one] at h
          go_wp2
          refine bodyPost_ret (v := .agg #[.int .u64 s0, .int .u64 s1, .int .u64 s2, .int .u64 s3]) (by simp [results, Tryd.results62, go_sem, c0, c1, c2, c3]) rfl ⟨s0, s1, s2, s3, rfl, HF5, ?_⟩
          exact Ext.st HBz (Ext.st HBz (Ext.st HBz (Ext.st HBz HE5.out)))
        · obtain ⟨j, rfl⟩ : ∃ i, j = i + 1 := ⟨j - 1, by omega⟩
          have hjl : Hid (j < 64) := (by omega : j < 64)
          have hz : (4 * ((j + 1 : Nat) : Int) - 4) = ((4 * j : Nat) : Int) := by omega
          rw [hz]
          have hsub : IntKind.i64.wrap (((4 * j : Nat) : Int) - 4) = 4 * (j : Int) - 4 := by rw [IntKind.wrap_i64]; omega
          have hpl : 4 * j < 256 := by omega
          have hge : (0 : Int) ≤ ((4 * j : Nat) : Int) := by omega
          have hged : decide ((0 : Int) ≤ ((4 * j : Nat) : Int)) = true := by simpa using hge
          have HD : Hid (bits BinOp.and IntKind.u64 (wd e0 e1 e2 e3 (4 * j / 64) / 2 ^ (4 * j % 64)) 15 = (((((val e0 e1 e2 e3).toNat) / 16 ^ j % 16 : Nat)) : Int)) := nib_ok he j (by omega)
          have HES : Hid ((val e0 e1 e2 e3).toNat / 16 ^ j = 16 * ((val e0 e1 e2 e3).toNat / 16 ^ (j + 1)) + (val e0 e1 e2 e3).toNat / 16 ^ j % 16) := exp_step _ _
          obtain ⟨m, hm⟩ : ∃ m, (val e0 e1 e2 e3).toNat / 16 ^ (j + 1) = m := ⟨_, rfl⟩
          rw [hm] at HS HES
          obtain ⟨d, hd⟩ : ∃ d, (val e0 e1 e2 e3).toNat / 16 ^ j % 16 = d := ⟨_, rfl⟩
          have hd16 : d < 16 := by rw [← hd]; exact Nat.mod_lt _ (by decide)
          rw [hd] at HD HES
          clear hd hm hj hj0 hz
          obtain ⟨pl, hplv⟩ : ∃ p, 4 * j = p := ⟨_, rfl⟩
          have HPL : Hid (4 * j = pl) := hplv
          rw [hplv] at hsub hpl HD hge hged
          rw [hplv]
          clear hplv
          go_wp2
          go_loopw [30] (fun u30 wr => ∃ (i : Nat) (s0 s1 s2 s3 : Int), i ≤ 4 ∧ u30 = .int .i64 i ∧ PW w wr n b7 e0 e1 e2 e3 T s0 s1 s2 s3 ∧ Hid (QMod ((val x0 x1 x2 x3) ^ (2 ^ i * m)) s0 s1 s2 s3)) (fun u30 _ => 4 - (intOf u30).toNat)
          case atStart => exact ⟨0, s0, s1, s2, s3, by omega, rfl, HP, by rw [Nat.pow_zero, Nat.one_mul]; exact HS⟩
          case round =>
            clear HP HS
            obtain ⟨i, s0, s1, s2, s3, hi, rfl, HP, HS⟩ := hrel
            obtain ⟨⟨ls, a0, a1, a2, a3⟩, b0, b1, b2, b3⟩ := HP.2.2.2.1
            have G1 := hG.ext HP.2.2.2.2
            by_cases hlt : i < 4
            · have hi0 : (i : Int) < 4 := by omega
              go_wp2_with fail
              refine (smul_any _ _ _ _ _ _ _ _ HS.out.1 HS.out.1 _ G1).mono ?_
              rintro e wy ⟨r0, r1, r2, r3, rfl, HR, HX⟩
              have HP2 := HP.ext HX
              clear HX ls a0 a1 a2 a3 b0 b1 b2 b3 HP
              obtain ⟨⟨ls, a0, a1, a2, a3⟩, b0, b1, b2, b3⟩ := HP2.2.2.2.1
              go_wp2
              go_roundw
              case rel => exact ⟨i + 1, r0, r1, r2, r3, hlt, by go_num, HP2.set hb7 HB7, by rw [show 2 ^ (i + 1) * m = 2 ^ i * m + 2 ^ i * m from by rw [Nat.pow_succ, Nat.mul_right_comm]; omega]; exact sq_step HS.out HR.out⟩
              case measure => simp [intOf]; omega
            · obtain rfl : i = 4 := by omega
              have ge := row_wd HP.1 (pl / 64) (by omega)
              have HS4 : Hid (QMod ((val x0 x1 x2 x3) ^ (16 * m)) s0 s1 s2 s3) := HS.out
              generalize wd e0 e1 e2 e3 (pl / 64) = ev at *
              have hs := HS4.out.1
              have ht0 := HP.2.2.1.2 (d * 4) (by omega)
              have ht1 := HP.2.2.1.2 (d * 4 + 1) (by omega)
              have ht2 := HP.2.2.1.2 (d * 4 + 2) (by omega)
              have ht3 := HP.2.2.1.2 (d * 4 + 3) (by omega)
              have HDP : Hid (QMod ((val x0 x1 x2 x3) ^ d) (T (d * 4)) (T (d * 4 + 1)) (T (d * 4 + 2)) (T (d * 4 + 3))) := by
                have h := HT.out d (by rw [HK.out]; exact hd16)
                rwa [Nat.mul_comm 4 d] at h
              generalize T (d * 4) = t0 at *
              generalize T (d * 4 + 1) = t1 at *
              generalize T (d * 4 + 2) = t2 at *
              generalize T (d * 4 + 3) = t3 at *
              replace ht0 := ht0.1
              replace ht1 := ht1.1
              replace ht2 := ht2.1
              replace ht3 := ht3.1
              have hdd := HD.out
              by_cases hd0 : d = 0
              · subst hd0
                have HFx : Hid (QMod ((val x0 x1 x2 x3) ^ ((val e0 e1 e2 e3).toNat / 16 ^ j)) s0 s1 s2 s3) := by rw [HES.out, Nat.add_zero]; exact HS4.out
                go_wp2
                go_roundw
                case rel => exact ⟨j, s0, s1, s2, s3, by have := hjl.out; omega, by first | rfl | go_num, HP, HFx⟩
                case measure => have := HPL.out; simp [intOf]; omega
              · have hd1 : (d : Int) ≠ 0 := by omega
                have hd2 : (d : Int) < 16 := by omega
                have HM : Hid (∀ wx, Gl wx → Calls Tryd.prog 28 #[.agg #[.int .u64 s0, .int .u64 s1, .int .u64 s2, .int .u64 s3], .agg #[.int .u64 t0, .int .u64 t1, .int .u64 t2, .int .u64 t3]] wx fun e w' => ∃ r0 r1 r2 r3 : Int, e = .returned (.agg #[.int .u64 r0, .int .u64 r1, .int .u64 r2, .int .u64 r3]) ∧ Hid (QMod ((val x0 x1 x2 x3) ^ ((val e0 e1 e2 e3).toNat / 16 ^ j)) r0 r1 r2 r3) ∧ Ext wx w') := fun wx hg => (smul_any _ _ _ _ _ _ _ _ hs HDP.out.1 wx hg).mono fun _ _ ⟨r0, r1, r2, r3, h1, h2, h3⟩ => ⟨r0, r1, r2, r3, h1, by rw [HES.out]; exact mul_step HS4.out HDP.out h2.out, h3⟩
                go_wp2_with fail
                go_region_with (go_at_call 28; refine (HM.out _ (G1.ext (Ext.drew (Ext.refl _)))).mono ?_; rintro e wy ⟨r0, r1, r2, r3, rfl, HR, HX⟩; have HP2 := HP.ext (Ext.trans (Ext.drew (Ext.refl _)) HX); clear ls a0 a1 a2 a3 b0 b1 b2 b3; obtain ⟨⟨ls, a0, a1, a2, a3⟩, b0, b1, b2, b3⟩ := HP2.2.2.2.1)
                all_goals
                  go_wp2
                  go_roundw
                  case rel => exact ⟨j, r0, r1, r2, r3, by have := hjl.out; omega, by first | rfl | go_num, HP2.set hb7 HB7, HR⟩
                  case measure => have := HPL.out; simp [intOf]; omega
end Go.Proofs.YtnaiccfdbapdpaaDoor
