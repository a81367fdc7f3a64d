/-
  sandglassref07.mul, called: the product of two numbers of some words of 32 bits; nothing old is turned.
-/
import Derived.Test.YtfhglfldmboanaaDoorTabn
namespace Go.Proofs.YtfhglfldmboanaaDoor
open Go.RowKit
theorem Tryd.info32 : (Tryd.prog.info? 32).map (fun i => (i.zero, i.size, i.bytes)) = some (some (.int .u64 0), 1, 8) := by kernel_rfl
set_option maxHeartbeats 1000000 in
theorem mulw_any (A B : Nat → Nat) (la lb : Nat) (ha0 : 0 < la) (ha : la ≤ 4) (hb0 : 0 < lb) (hb : lb ≤ 4) (hA : ∀ k, A k < BW) (hB : ∀ k, B k < BW) (va vb : Value) (w : World) (sa : SlIs w va (lst .u64 A la)) (sb : SlIs w vb (lst .u64 B lb)) :
    Calls Tryd.prog 34 #[va, vb] w fun e w' => ∃ g P, e = .returned (.slice (some ⟨g, 0, none⟩) (la + lb) (la + lb)) ∧ TabN w' g .u64 (la + lb) P ∧ Hid (nvf P (la + lb) = nvf A la * nvf B lb ∧ ∀ k, P k < BW) ∧ Ext w w' := by
  obtain ⟨i0, hi, hz0, hz1, hz2⟩ := info_parts Tryd.info32
  obtain ⟨ba, oa, ca, rfl, hba, Ha⟩ := sa.form ha0
  obtain ⟨bb, ob, cb, rfl, hbb, Hb⟩ := sb.form hb0
  have Ha : Hid (∀ j, j < la → w.cell? ⟨ba, oa + j, none⟩ = some (.int .u64 (A j : Int))) := Ha
  have Hb : Hid (∀ j, j < lb → w.cell? ⟨bb, ob + j, none⟩ = some (.int .u64 (B j : Int))) := Hb
  have hab : IntKind.i64.wrap ((la : Int) + (lb : Int)) = (la : Int) + (lb : Int) := by rw [IntKind.wrap_i64]; omega
  clear sa sb
  go_enter Tryd.func34, Tryd.ntmps34
  go_wp2_with (first | (at_make; refine wpList_make_full _ rfl _ _ 48 rfl w.heap.size 32 i0 (.int .u64 0) 1 Tryd.underlying48 hi hz0 hz1 _ _ _ _ (la + lb) rfl rfl ?m1 ?m2 ?m3 ?m4 ?m5 ?_))
  case m1 => first | rfl | omega | simp
  case m2 => first | rfl | omega | simp
  case m3 => rw [hz2]; omega
  case m4 => unfold maxLen; omega
  case m5 => simp
  intro w1 hown hgrow
  have HT0 : TabN w1 w.heap.size .u64 (la + lb) (fun _ => 0) := own_tab (by rw [made_lst'] at hown; exact hown)
  have HE0 : Hid (Ext w w1) := ext_grown (Ext.refl _) hgrow (by simp)
  have HG : SizeLe w w.heap.size := Nat.le_refl _
  clear hown hgrow hab
  generalize w.heap.size = g at HT0 HG ⊢
  go_wp2
  go_loopw [6] (fun u6 wr => ∃ (i : Nat) (P : Nat → Nat), i ≤ la ∧ u6 = .int .i64 i ∧ TabN wr g .u64 (la + lb) P ∧ Hid (MOut A B P (la + lb) lb i) ∧ Hid (Ext w wr)) (fun u6 _ => la - (intOf u6).toNat)
  case atStart => exact ⟨0, _, by omega, rfl, HT0, MOut.start, HE0⟩
  case round =>
    obtain ⟨i, P0, hil, rfl, HT, HM, HE⟩ := hrel
    clear HT0 HE0
    by_cases hlt : i < la
    · have hi1 : (i : Int) < (la : Int) := by omega
      have hi0 : (0 : Int) ≤ (i : Int) := by omega
      have hPl := HM.out.2.1
      have HI0 : Hid (MIn A B P0 P0 (la + lb) i 0 0) := MIn.start hPl
      clear hPl
      go_wp2
      go_loopw [7, 8] (fun u7 u8 wr => ∃ (j c : Nat) (P : Nat → Nat), j ≤ lb ∧ u8 = .int .i64 j ∧ u7 = .int .u64 c ∧ TabN wr g .u64 (la + lb) P ∧ Hid (MIn A B P0 P (la + lb) i j c) ∧ Hid (Ext w wr)) (fun _ u8 _ => lb - (intOf u8).toNat)
      case atStart => exact ⟨0, 0, P0, by omega, rfl, rfl, HT, HI0, HE⟩
      case round =>
        clear HT HE HI0
        obtain ⟨j, c, P, hjl, rfl, rfl, HT, HI, HE⟩ := hrel
        have hij : IntKind.i64.wrap ((i : Int) + (j : Int)) = (i : Int) + (j : Int) := by rw [IntKind.wrap_i64]; omega
        have hij0 : (0 : Int) ≤ (i : Int) + (j : Int) := by omega
        have hijn : ((i : Int) + (j : Int)).toNat = i + j := by omega
        by_cases hj : j < lb
        · have hj1 : (j : Int) < (lb : Int) := by omega
          have hj0 : (0 : Int) ≤ (j : Int) := by omega
          have hij1 : (i : Int) + (j : Int) < ((la + lb : Nat) : Int) := by omega
          have hij2 : (i : Int) + (j : Int) < (la : Int) + (lb : Int) := by omega
          have ga := later HE.out (Ha.out i hlt)
          have gb := later HE.out (Hb.out j hj)
          obtain ⟨gp, gf⟩ := HT.2 (i + j) (by omega)
          have HS : Hid (MIn A B P0 (put P (i + j) ((P (i + j) + A i * B j + c) % BW)) (la + lb) i (j + 1) ((P (i + j) + A i * B j + c) / BW)) := HI.out.step (by omega) (hA i) (hB j)
          have hb1 := prod_lt (hA i) (hB j) (HI.out.2.1 (i + j)) HI.out.2.2.1
          obtain ⟨m, hm⟩ : ∃ m, A i * B j = m := ⟨_, rfl⟩
          have hw1 : IntKind.u64.wrap ((A i : Int) * (B j : Int)) = (m : Int) := by
            rw [IntKind.wrap_u64, ← hm]; push_cast
            have : ((A i * B j : Nat) : Int) < 18446744073709551616 := by omega
            push_cast at this
            exact Int.emod_eq_of_lt (by exact_mod_cast Nat.zero_le (A i * B j)) this
          rw [hm] at HS hb1
          clear hm
          obtain ⟨t, ht⟩ : ∃ t, P (i + j) + m + c = t := ⟨_, rfl⟩
          have hw2 : IntKind.u64.wrap ((P (i + j) : Int) + (m : Int)) = (P (i + j) : Int) + (m : Int) := by rw [IntKind.wrap_u64]; omega
          have hw3 : IntKind.u64.wrap ((P (i + j) : Int) + (m : Int) + (c : Int)) = (t : Int) := by rw [IntKind.wrap_u64]; omega
          rw [ht] at HS hb1
          have hand := and32 t hb1.1
          have hshr : (t : Int) / 4294967296 = ((t / BW : Nat) : Int) := by unfold BW; omega
          clear ht hb1
          generalize t % BW = r at *
          generalize t / BW = q at *
          generalize P (i + j) = pv at *
          generalize A i = av at *
          generalize B j = bv at *
          go_wp2_with fail
          go_region
          go_wp2
          go_roundw
          case rel => exact ⟨j + 1, q, _, hj, by go_num, rfl, (HT.set (i + j) r).ext (Ext.drew (Ext.refl _)), HS, (Ext.st HG HE.out).drew⟩
          case measure => simp [intOf]; omega
        · obtain rfl : j = lb := by omega
          have hjn : ¬ (j : Int) < (j : Int) := by omega
          have hij1 : (i : Int) + (j : Int) < ((la + j : Nat) : Int) := by omega
          have hij2 : (i : Int) + (j : Int) < (la : Int) + (j : Int) := by omega
          obtain ⟨gp, gf⟩ := HT.2 (i + j) (by omega)
          have HS : Hid (MOut A B (put P (i + j) c) (la + j) j (i + 1)) := HM.out.step HI.out (by omega)
          go_wp2
          go_roundw
          case rel => exact ⟨i + 1, _, hlt, by go_num, HT.set (i + j) c, HS, Ext.st HG HE.out⟩
          case measure => simp [intOf]; omega
    · obtain rfl : i = la := by omega
      have hin : ¬ (i : Int) < (i : Int) := by omega
      go_wp2
      go_ret
      exact ⟨g, rfl, P0, HT, ⟨HM.out.1, HM.out.2.1⟩, HE.out⟩
end Go.Proofs.YtfhglfldmboanaaDoor
