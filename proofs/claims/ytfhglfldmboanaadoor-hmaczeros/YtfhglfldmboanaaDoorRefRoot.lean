/-
  sandglassref07.root, called: the first 32 bits behind the point of a root; nothing old is turned.
-/
import Derived.Test.YtfhglfldmboanaaDoorRefMulw
import Derived.Test.YtfhglfldmboanaaDoorRefAbove
namespace Go.Proofs.YtfhglfldmboanaaDoor
open Go.RowKit
/-- Two words. -/
def W2 (lo hi : Nat) : Nat → Nat := fun k => if k = 0 then lo else if k = 1 then hi else 0
theorem W2_sl (w : World) (lo hi : Nat) : SlIs (w.alloc (.cells #[.int .u64 (lo : Int), .int .u64 (hi : Int)] 32)) (.slice (some ⟨w.heap.size, 0, none⟩) 2 2) (lst .u64 (W2 lo hi) 2) := by
  refine .inr ⟨w.heap.size, 0, 2, by rw [lst_len], by simp, by rw [lst_len]; decide, fun j x hj => ?_⟩
  obtain ⟨hk, rfl⟩ := lst_of hj
  rw [World.cell?_alloc_at _ _ _ _ rfl]
  have : j = 0 ∨ j = 1 := by omega
  rcases this with rfl | rfl <;> rfl
theorem W2_val (t : Nat) : nvf (W2 (t % BW) (t / BW)) 2 = t := by
  show (0 + t % BW * BW ^ 0) + t / BW * BW ^ 1 = t
  rw [Nat.pow_zero, Nat.pow_one, Nat.mul_one, Nat.zero_add, Nat.mul_comm]
  have := Nat.div_add_mod t BW
  omega
theorem W2_lt {t : Nat} (h : t < 2 ^ 40) : ∀ k, W2 (t % BW) (t / BW) k < BW := by
  intro k
  unfold W2
  split
  · exact Nat.mod_lt _ (by decide)
  · split
    · rw [show (2 : Nat) ^ 40 = 1099511627776 from by decide] at h
      unfold BW
      omega
    · decide
theorem root_or (x p s k : Nat) (hs : s < 40) (hk : k = 39 - s) : bits BinOp.or IntKind.u64 ((rootN x p s : Nat) : Int) (IntKind.u64.wrap (2 ^ k)) = ((rootN x p s + 2 ^ k : Nat) : Int) ∧ rootN x p s + 2 ^ k < 2 ^ 41 := by
  obtain ⟨h1, h2⟩ := rootN_mod x p s (by omega)
  have hp : (2 : Nat) ^ k ≤ 2 ^ 39 := Nat.pow_le_pow_right (by decide) (by omega)
  have hw : IntKind.u64.wrap (2 ^ k) = ((2 ^ k : Nat) : Int) := by
    have : (2 : Nat) ^ k < 18446744073709551616 := Nat.lt_of_le_of_lt hp (by decide)
    rw [show ((2 : Int) ^ k) = ((2 ^ k : Nat) : Int) from by push_cast; rfl, IntKind.wrap_u64]
    generalize (2 : Nat) ^ k = z at *
    omega
  have e : rootN x p s ||| 2 ^ k = rootN x p s + 2 ^ k := nat_join (k + 1) _ _ (by rw [show k + 1 = 40 - s from by omega]; exact h1) (Nat.pow_lt_pow_right (by decide) (by omega))
  rw [hw, u64_or_nat _ _ (Nat.lt_trans h2 (by decide)) (Nat.lt_of_le_of_lt hp (by decide)), e]
  refine ⟨rfl, ?_⟩
  rw [show (2 : Nat) ^ 39 = 549755813888 from by decide] at hp
  rw [show (2 : Nat) ^ 40 = 1099511627776 from by decide] at h2
  rw [show (2 : Nat) ^ 41 = 2199023255552 from by decide]
  omega
theorem conv32 (r : Nat) : IntKind.u32.wrap (r : Int) = ((r % BW : Nat) : Int) := by rw [IntKind.wrap_u32']; unfold BW; omega
set_option maxHeartbeats 1000000 in
theorem root2_any (x : Nat) (hx : x < 1000) (w : World) :
    Calls Tryd.prog 25 #[.int .u64 (x : Int), .int .i64 2] w fun e w' => e = .returned (.int .u32 ((rootN x 2 40 % BW : Nat) : Int)) ∧ Ext w w' := by
  go_enter Tryd.func25, Tryd.ntmps25
  go_wp2
  go_loopw [5, 6] (fun r k wr => ∃ (s : Nat), s ≤ 40 ∧ r = .int .u64 ((rootN x 2 s : Nat) : Int) ∧ k = .int .i64 (39 - (s : Int)) ∧ Hid (Ext w wr)) (fun _ k _ => (intOf k + 1).toNat)
  case atStart => exact ⟨0, by omega, rfl, rfl, Ext.refl _⟩
  case round =>
    obtain ⟨s, hs, rfl, rfl, HE⟩ := hrel
    by_cases hlt : s < 40
    · obtain ⟨k, hk⟩ : ∃ k : Nat, (39 : Int) - (s : Int) = (k : Int) := ⟨39 - s, by omega⟩
      have hk0 : (0 : Int) ≤ (k : Int) := by omega
      have hk40 : k < 40 := by omega
      have hsub : IntKind.i64.wrap ((k : Int) - 1) = (39 - ((s + 1 : Nat) : Int)) := by rw [IntKind.wrap_i64]; omega
      obtain ⟨hor, hlt41⟩ := root_or x 2 s k hlt (by omega)
      have HR1 : Hid (x * BW ^ 2 < (rootN x 2 s + 2 ^ k) ^ 2 → rootN x 2 (s + 1) = rootN x 2 s) := fun h => by
        rw [rootN]; rw [show 39 - s = k from by omega, if_pos h]
      have HR2 : Hid (¬ x * BW ^ 2 < (rootN x 2 s + 2 ^ k) ^ 2 → rootN x 2 (s + 1) = rootN x 2 s + 2 ^ k) := fun h => by
        rw [rootN]; rw [show 39 - s = k from by omega, if_neg h]
      have HK : Hid (k ≤ 39 ∧ k = 39 - s) := (by omega : k ≤ 39 ∧ k = 39 - s)
      have HB2 : Hid (rootN x 2 s + 2 ^ k < 2 ^ 40 + 2 ^ 40) := (by have := hlt41; rw [show (2 : Nat) ^ 41 = 2 ^ 40 + 2 ^ 40 from by decide] at this; exact this)
      rw [hk]
      clear hk
      obtain ⟨t, ht⟩ : ∃ t, rootN x 2 s + 2 ^ k = t := ⟨_, rfl⟩
      rw [ht] at hor HR1 HR2 hlt41 HB2
      have HTd : Hid (rootN x 2 s + 2 ^ k = t) := ht
      clear ht
      rw [show (2 : Nat) ^ 41 = 2199023255552 from by decide] at hlt41
      have hand := and32 t (by omega)
      have hshr : (t : Int) / 4294967296 = ((t / BW : Nat) : Int) := by unfold BW; omega
      have HWv : Hid (nvf (W2 (t % BW) (t / BW)) 2 = t) := W2_val t
      have HWl : ∀ q, W2 (t % BW) (t / BW) q < BW := by
        intro q
        unfold W2
        split
        · exact Nat.mod_lt _ (by decide)
        · split
          · unfold BW; omega
          · decide
      have HSL := W2_sl wr (t % BW) (t / BW)
      clear hlt41 HB2
      generalize t % BW = lo at *
      generalize t / BW = hi at *
      have HWl : Hid (∀ q, W2 lo hi q < BW) := HWl
      go_wp2_with fail
      refine (mulw_any _ _ 2 2 (by decide) (by decide) (by decide) (by decide) HWl.out HWl.out _ _ _ HSL HSL).mono ?_
      rintro e w1 ⟨g1, P1, rfl, HT, HQ, HX⟩
      have HE2 : Hid (Ext w w1) := (HE.out.alloc _).trans HX
      have HV : Hid (nvf P1 4 = t ^ 2) := by
        show _ = _
        rw [HQ.out.1, HWv.out, Nat.pow_succ, Nat.pow_one]
      go_wp2_with fail
      refine (above_any P1 x 2 4 HQ.out.2 (by unfold BW; omega) (by decide) (by decide) _ _ (HT.slice (by decide))).mono ?_
      rintro e w3 ⟨rfl, HX3⟩
      have HE4 : Hid (Ext w w3) := HE2.out.trans HX3
      rw [HV.out]
      by_cases hc : x * BW ^ 2 < t ^ 2
      · rw [decide_eq_true hc]
        have HN : Hid (rootN x 2 (s + 1) = rootN x 2 s) := HR1.out hc
        clear hc
        go_wp2
        go_roundw
        case rel => exact ⟨s + 1, hlt, by rw [HN.out], rfl, HE4⟩
        case measure => have := HK.out; simp [intOf]; omega
      · rw [decide_eq_false hc]
        have HN : Hid (rootN x 2 (s + 1) = t) := HR2.out hc
        clear hc
        go_wp2
        go_roundw
        case rel => exact ⟨s + 1, hlt, by rw [HN.out], rfl, HE4⟩
        case measure => have := HK.out; simp [intOf]; omega
    · obtain rfl : s = 40 := by omega
      have hz : (39 : Int) - ((40 : Nat) : Int) = -1 := by omega
      rw [hz]
      have hcv := conv32 (rootN x 2 40)
      obtain ⟨q, HQ⟩ : ∃ q, Hid (rootN x 2 40 % BW = q) := ⟨_, rfl⟩
      rw [HQ.out] at hcv
      obtain ⟨r, hr⟩ : ∃ r, rootN x 2 40 = r := ⟨_, rfl⟩
      rw [hr] at hcv
      rw [hr]
      clear hr
      go_wp2
      go_ret
      exact ⟨by rw [HQ.out]; rfl, HE.out⟩
set_option maxHeartbeats 1000000 in
theorem root3_any (x : Nat) (hx : x < 1000) (w : World) :
    Calls Tryd.prog 25 #[.int .u64 (x : Int), .int .i64 3] w fun e w' => e = .returned (.int .u32 ((rootN x 3 40 % BW : Nat) : Int)) ∧ Ext w w' := by
  go_enter Tryd.func25, Tryd.ntmps25
  go_wp2
  go_loopw [5, 6] (fun r k wr => ∃ (s : Nat), s ≤ 40 ∧ r = .int .u64 ((rootN x 3 s : Nat) : Int) ∧ k = .int .i64 (39 - (s : Int)) ∧ Hid (Ext w wr)) (fun _ k _ => (intOf k + 1).toNat)
  case atStart => exact ⟨0, by omega, rfl, rfl, Ext.refl _⟩
  case round =>
    obtain ⟨s, hs, rfl, rfl, HE⟩ := hrel
    by_cases hlt : s < 40
    · obtain ⟨k, hk⟩ : ∃ k : Nat, (39 : Int) - (s : Int) = (k : Int) := ⟨39 - s, by omega⟩
      have hk0 : (0 : Int) ≤ (k : Int) := by omega
      have hk40 : k < 40 := by omega
      have hsub : IntKind.i64.wrap ((k : Int) - 1) = (39 - ((s + 1 : Nat) : Int)) := by rw [IntKind.wrap_i64]; omega
      obtain ⟨hor, hlt41⟩ := root_or x 3 s k hlt (by omega)
      have HR1 : Hid (x * BW ^ 3 < (rootN x 3 s + 2 ^ k) ^ 3 → rootN x 3 (s + 1) = rootN x 3 s) := fun h => by
        rw [rootN]; rw [show 39 - s = k from by omega, if_pos h]
      have HR2 : Hid (¬ x * BW ^ 3 < (rootN x 3 s + 2 ^ k) ^ 3 → rootN x 3 (s + 1) = rootN x 3 s + 2 ^ k) := fun h => by
        rw [rootN]; rw [show 39 - s = k from by omega, if_neg h]
      have HK : Hid (k ≤ 39 ∧ k = 39 - s) := (by omega : k ≤ 39 ∧ k = 39 - s)
      have HB2 : Hid (rootN x 3 s + 2 ^ k < 2 ^ 40 + 2 ^ 40) := (by have := hlt41; rw [show (2 : Nat) ^ 41 = 2 ^ 40 + 2 ^ 40 from by decide] at this; exact this)
      rw [hk]
      clear hk
      obtain ⟨t, ht⟩ : ∃ t, rootN x 3 s + 2 ^ k = t := ⟨_, rfl⟩
      rw [ht] at hor HR1 HR2 hlt41 HB2
      have HTd : Hid (rootN x 3 s + 2 ^ k = t) := ht
      clear ht
      rw [show (2 : Nat) ^ 41 = 2199023255552 from by decide] at hlt41
      have hand := and32 t (by omega)
      have hshr : (t : Int) / 4294967296 = ((t / BW : Nat) : Int) := by unfold BW; omega
      have HWv : Hid (nvf (W2 (t % BW) (t / BW)) 2 = t) := W2_val t
      have HWl : ∀ q, W2 (t % BW) (t / BW) q < BW := by
        intro q
        unfold W2
        split
        · exact Nat.mod_lt _ (by decide)
        · split
          · unfold BW; omega
          · decide
      have HSL := W2_sl wr (t % BW) (t / BW)
      clear hlt41 HB2
      generalize t % BW = lo at *
      generalize t / BW = hi at *
      have HWl : Hid (∀ q, W2 lo hi q < BW) := HWl
      go_wp2_with fail
      refine (mulw_any _ _ 2 2 (by decide) (by decide) (by decide) (by decide) HWl.out HWl.out _ _ _ HSL HSL).mono ?_
      rintro e w1 ⟨g1, P1, rfl, HT, HQ, HX⟩
      have HE2 : Hid (Ext w w1) := (HE.out.alloc _).trans HX
      go_wp2_with fail
      refine (mulw_any _ _ 4 2 (by decide) (by decide) (by decide) (by decide) HQ.out.2 HWl.out _ _ _ (HT.slice (by decide)) (HSL.ext HX)).mono ?_
      rintro e w2 ⟨g2, P2, rfl, HT2, HQ2, HX2⟩
      have HE3 : Hid (Ext w w2) := HE2.out.trans HX2
      clear HX2
      have HV : Hid (nvf P2 6 = t ^ 3) := by
        show _ = _
        rw [HQ2.out.1, HQ.out.1, HWv.out, Nat.pow_succ, Nat.pow_succ, Nat.pow_one]
      go_wp2_with fail
      refine (above_any P2 x 3 6 HQ2.out.2 (by unfold BW; omega) (by decide) (by decide) _ _ (HT2.slice (by decide))).mono ?_
      rintro e w3 ⟨rfl, HX3⟩
      have HE4 : Hid (Ext w w3) := HE3.out.trans HX3
      rw [HV.out]
      by_cases hc : x * BW ^ 3 < t ^ 3
      · rw [decide_eq_true hc]
        have HN : Hid (rootN x 3 (s + 1) = rootN x 3 s) := HR1.out hc
        clear hc
        go_wp2
        go_roundw
        case rel => exact ⟨s + 1, hlt, by rw [HN.out], rfl, HE4⟩
        case measure => have := HK.out; simp [intOf]; omega
      · rw [decide_eq_false hc]
        have HN : Hid (rootN x 3 (s + 1) = t) := HR2.out hc
        clear hc
        go_wp2
        go_roundw
        case rel => exact ⟨s + 1, hlt, by rw [HN.out], rfl, HE4⟩
        case measure => have := HK.out; simp [intOf]; omega
    · obtain rfl : s = 40 := by omega
      have hz : (39 : Int) - ((40 : Nat) : Int) = -1 := by omega
      rw [hz]
      have hcv := conv32 (rootN x 3 40)
      obtain ⟨q, HQ⟩ : ∃ q, Hid (rootN x 3 40 % BW = q) := ⟨_, rfl⟩
      rw [HQ.out] at hcv
      obtain ⟨r, hr⟩ : ∃ r, rootN x 3 40 = r := ⟨_, rfl⟩
      rw [hr] at hcv
      rw [hr]
      clear hr
      go_wp2
      go_ret
      exact ⟨by rw [HQ.out]; rfl, HE.out⟩
end Go.Proofs.YtfhglfldmboanaaDoor
