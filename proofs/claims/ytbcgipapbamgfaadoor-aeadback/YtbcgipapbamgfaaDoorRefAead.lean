/-
  The document's sealing and opening (sandglassref11): zeros, length, tag, Seal, Open.
-/
import Derived.Test.YtbcgipapbamgfaaDoorAMath
import Derived.Test.YtbcgipapbamgfaaDoorRefMac
namespace Go.Proofs.YtbcgipapbamgfaaDoor
open Go.RowKit
set_option maxHeartbeats 400000 in
/-- zeros(n): 0s to a multiple of 16. -/
theorem rzeros_any (n : Nat) (_hn : n ≤ 100000) (w : World) :
    Calls Tryd.prog 27 #[.int .i64 (n : Int)] w fun e w' => e = .returned (.string (zS (z16 n))) ∧ Ext w w' := by
  obtain ⟨i0, hi, hz0, hz1, hz2⟩ := info_parts Tryd.info5
  obtain ⟨k, hk⟩ : ∃ k, z16 n = k := ⟨_, rfl⟩
  have hk16 : k < 16 := hk ▸ z16_lt n
  have e1 : (n : Int).tmod 16 = ((n % 16 : Nat) : Int) := rfl
  have e2 : IntKind.i64.wrap (16 - ((n % 16 : Nat) : Int)) = ((16 - n % 16 : Nat) : Int) := by rw [IntKind.wrap_i64]; omega
  have e3 : ((16 - n % 16 : Nat) : Int).tmod 16 = (k : Int) := by rw [← hk]; rfl
  have e4 : IntKind.i64.wrap ((n % 16 : Nat) : Int) = ((n % 16 : Nat) : Int) := by rw [IntKind.wrap_i64]; omega
  have e5 : IntKind.i64.wrap (k : Int) = (k : Int) := by rw [IntKind.wrap_i64]; omega
  generalize ((n % 16 : Nat) : Int) = r at *
  generalize ((16 - n % 16 : Nat) : Int) = q at *
  have hb : i0.bytes * k ≤ 281474976710656 := by rw [hz2]; omega
  have hm : k ≤ maxLen := by unfold maxLen; omega
  rw [hk]
  go_enter Tryd.func27, Tryd.ntmps27
  go_wp2_with (first | (at_make; refine wpList_make_full _ rfl _ _ 31 rfl w.heap.size 5 i0 (.int .u8 0) 1 Tryd.underlying31 hi hz0 hz1 _ _ _ _ k rfl rfl ?m1 ?m2 ?m3 ?m4 ?m5 ?_))
  case m1 => rfl
  case m2 => rfl
  case m3 => exact hb
  case m4 => exact hm
  case m5 => exact Nat.le_refl _
  intro w1 hown hgrow
  have HT0 : TabN w1 w.heap.size .u8 k (fun _ => 0) := own_tab (by rw [made_lst'] at hown; exact hown)
  have HE0 : Hid (Ext w w1) := ext_grown (Ext.refl _) hgrow (by simp)
  have hcs := lst_string (fun _ => 0) k w.heap.size k w1 HT0 hm
  clear hown hgrow HT0
  obtain ⟨SS, HSS⟩ : ∃ SS, Hid (mkS (fun _ => 0) k = SS) := ⟨_, rfl⟩
  rw [HSS.out] at hcs
  go_wp2
  go_ret
  exact ⟨by unfold zS; rw [HSS.out]; rfl, HE0.out⟩
theorem len_byte (n i : Nat) (hn : n ≤ 100000) (hi : i < 8) : ∃ k x v : Nat, IntKind.i64.wrap (8 * (i : Int)) = (k : Int) ∧ IntKind.u64.wrap (k : Int) = (k : Int) ∧ (k : Int) < 64 ∧ (0 : Int) ≤ (k : Int) ∧ k < 64 ∧ (n : Int) / 2 ^ k = (x : Int) ∧ IntKind.i64.wrap (x : Int) = (x : Int) ∧ IntKind.u8.wrap (x : Int) = (v : Int) ∧ lenB n i = v := by
  refine ⟨8 * i, n / 2 ^ (8 * i), n / 2 ^ (8 * i) % 256, ?_, ?_, by omega, by omega, by omega, ?_, ?_, ?_, rfl⟩
  · rw [IntKind.wrap_i64]; omega
  · rw [IntKind.wrap_u64]; omega
  · rw [Int.natCast_ediv, Int.natCast_pow]; rfl
  · have h : n / 2 ^ (8 * i) ≤ n := Nat.div_le_self _ _
    generalize n / 2 ^ (8 * i) = x at h ⊢
    rw [IntKind.wrap_i64]; omega
  · generalize n / 2 ^ (8 * i) = x
    rw [IntKind.wrap_u8]; omega
set_option maxRecDepth 10000 in
set_option maxHeartbeats 1000000 in
/-- length(n): 8 bytes, the lowest first. -/
theorem rlength_any (n : Nat) (hn : n ≤ 100000) (w : World) :
    Calls Tryd.prog 28 #[.int .i64 (n : Int)] w fun e w' => e = .returned (.string (lenS n)) ∧ Ext w w' := by
  obtain ⟨i0, hi, hz0, hz1, hz2⟩ := info_parts Tryd.info5
  obtain ⟨MB, HMB⟩ : ∃ MB, Hid (lenB n = MB) := ⟨_, rfl⟩
  go_enter Tryd.func28, Tryd.ntmps28
  go_wp2_with fail
  go_loopw [3, 4] (fun u3 u4 wq => ∃ (i : Nat), i ≤ 8 ∧ u4 = .int .i64 i ∧ Hid (wq.ownsRow w.heap.size 5 1 u3 i (lst .u8 MB i)) ∧ Hid (Ext w wq)) (fun _ u4 _ => 8 - (intOf u4).toNat)
  case atStart => exact ⟨0, by omega, rfl, World.ownsRow_nil _ _ _ _, Ext.refl _⟩
  case round =>
    obtain ⟨i, hi8, rfl, HW, HX2⟩ := hrel
    by_cases hlt : i < 8
    · have hi1 : (i : Int) < 8 := by omega
      obtain ⟨k, x, bv, e1, e2, e3, e4, e5, e6, e7, e8, e9⟩ := len_byte n i hn hlt
      have HBV : Hid (MB i = bv) := by show _ = _; rw [← HMB.out, e9]
      have HW2 : Hid ((wr.alloc (.cells #[.int .u8 (bv : Int)] 5)).ownsRow w.heap.size 5 1 u3 i (lst .u8 MB i)) := own_ext HW.out ((Ext.refl _).alloc _)
      have HB4 : Hid (w.heap.size ≤ (wr.alloc (.cells #[.int .u8 (bv : Int)] 5)).heap.size) := ((HX2.out).alloc _).size
      have HXa : Hid (Ext w (wr.alloc (.cells #[.int .u8 (bv : Int)] 5))) := (HX2.out).alloc _
      clear e9
      go_wp2_with (first | (at_builtin; refine wpList_append_lies _ rfl _ _ 31 rfl w.heap.size 5 i0 (.int .u8 0) 1 1 Tryd.underlying31 hi hz0 hz1 hz2 rfl (by decide) u3 i _ rfl HW2.out ⟨_, 0, none⟩ 1 1 [.int .u8 (bv : Int)] rfl rfl (news1m _ _) (news_onem _) (by decide) (by unfold maxLen; omega) (by omega) HB4.out _ rfl ?_))
      intro g5 cap5 w5 hown5 hgrow5 hat5 hlt5
      have HW5 : Hid (w5.ownsRow w.heap.size 5 1 (.slice (some ⟨g5, 0, none⟩) (i + 1) cap5) (i + 1) (lst .u8 MB (i + 1))) := by
        rw [lst_succ, HBV.out]
        exact hown5
      have HX5 : Hid (Ext w w5) := ext_grown HXa.out hgrow5 (own_at HW2.out)
      clear hown5 hgrow5 hat5 hlt5 HXa HB4 HW2 HW HX2
      go_wp2
      go_roundw
      case rel => exact ⟨i + 1, hlt, by go_num, HW5, HX5⟩
      case measure => simp [intOf]; omega
    · have HI : Hid (i = 8) := (by omega : i = 8)
      have hni : ¬ (i : Int) < 8 := by omega
      have HSl : SlIs wr u3 (lst .u8 MB 8) := by
        have h := HW.out
        rw [HI.out] at h
        exact own_read h
      have hcv := run_lst_string Tryd.prog 5 31 9 Tryd.underlying31 Tryd.underlying5 Tryd.underlying9 wr MB 8 u3 HSl (by decide)
      obtain ⟨SS, HSS⟩ : ∃ SS, Hid (mkS MB 8 = SS) := ⟨_, rfl⟩
      rw [HSS.out] at hcv
      clear HSl
      go_wp2
      go_ret
      exact ⟨by unfold lenS; rw [HMB.out, HSS.out]; rfl, HX2.out⟩
set_option maxRecDepth 10000 in
set_option maxHeartbeats 2000000 in
/-- tag: of sealed bytes. -/
theorem rtag_any (key nonce s more : ByteArray) (hk : key.size = 32) (ho : nonce.size = 12) (hm : more.size ≤ 1000) (hs : s.size ≤ 3000) (w : World) :
    Calls Tryd.prog 19 #[.string key, .string nonce, .string s, .string more] w fun e w' => e = .returned (.string (tagS key nonce s more)) ∧ Ext w w' := by
  have HB : Hid (∀ W, Calls Tryd.prog 25 #[.string key, .string nonce, .int .u32 0] W fun e w' => e = .returned (.tuple #[.string (blkS key nonce 0), .int .i64 0]) ∧ Ext W w') := fun W => rblock_any key nonce 0 hk ho (by decide) W
  have HM : Hid (∀ W, Calls Tryd.prog 26 #[.string (onceS key nonce), .string (toldS more s)] W fun e w' => e = .returned (.tuple #[.string (tagS key nonce s more), .int .i64 0]) ∧ Ext W w') := fun W => rmac_any _ _ (onceS_size _ _) (toldS_le hm hs) W
  have HZm : Hid (∀ W, Calls Tryd.prog 27 #[.int .i64 (more.size : Int)] W fun e w' => e = .returned (.string (zS (z16 more.size))) ∧ Ext W w') := fun W => rzeros_any _ (by omega) W
  have HZs : Hid (∀ W, Calls Tryd.prog 27 #[.int .i64 (s.size : Int)] W fun e w' => e = .returned (.string (zS (z16 s.size))) ∧ Ext W w') := fun W => rzeros_any _ (by omega) W
  have HLm : Hid (∀ W, Calls Tryd.prog 28 #[.int .i64 (more.size : Int)] W fun e w' => e = .returned (.string (lenS more.size)) ∧ Ext W w') := fun W => rlength_any _ (by omega) W
  have HLs : Hid (∀ W, Calls Tryd.prog 28 #[.int .i64 (s.size : Int)] W fun e w' => e = .returned (.string (lenS s.size)) ∧ Ext W w') := fun W => rlength_any _ (by omega) W
  have g0 : (32 : Int) ≤ ((blkS key nonce 0).size : Int) := by rw [blkS_size]; decide
  have HO : Hid ((blkS key nonce 0).extract 0 32 = onceS key nonce) := rfl
  have HT : Hid (more ++ zS (z16 more.size) ++ s ++ zS (z16 s.size) ++ lenS more.size ++ lenS s.size = toldS more s) := rfl
  have z1 := z16_lt more.size
  have z2 := z16_lt s.size
  have q1 : ¬ 9223372036854775807 < more.size + (zS (z16 more.size)).size := by rw [zS_size]; omega
  have q2 : ¬ 9223372036854775807 < more.size + (zS (z16 more.size)).size + s.size := by simp only [zS_size]; omega
  have q3 : ¬ 9223372036854775807 < more.size + (zS (z16 more.size)).size + s.size + (zS (z16 s.size)).size := by simp only [zS_size]; omega
  have q4 : ¬ 9223372036854775807 < more.size + (zS (z16 more.size)).size + s.size + (zS (z16 s.size)).size + (lenS more.size).size := by simp only [zS_size, lenS_size]; omega
  have q5 : ¬ 9223372036854775807 < more.size + (zS (z16 more.size)).size + s.size + (zS (z16 s.size)).size + (lenS more.size).size + (lenS s.size).size := by simp only [zS_size, lenS_size]; omega
  generalize zS (z16 more.size) = zm at *
  generalize zS (z16 s.size) = zs at *
  generalize lenS more.size = lm at *
  generalize lenS s.size = ls at *
  generalize tagS key nonce s more = tt at *
  go_enter Tryd.func19, Tryd.ntmps19
  go_wp2_with fail
  refine (HB.out _).mono ?_
  rintro e w1 ⟨rfl, HX1⟩
  generalize blkS key nonce 0 = bk at *
  go_wp2_with fail
  have HEw2 : Hid (Ext w w1.drew) := HX1.drew
  clear HX1 HB
  refine wp_region_noPanic ?_
  refine wp_region_any (by kernel_rfl) ?_
  rw [show ({ w1 with drawn := w1.drawn + 1 } : World) = w1.drew from rfl]
  generalize w1.drew = w2 at *
  have hO := HO.out
  refine any_take (i := 0) (v := ?v0) rfl (by kernel_rfl) (by kernel_rfl) (by kernel_rfl) (fun _ _ _ h => h) rfl ?hy0 ?rest0
  case hy0 => (intro w; go_simp; try with_reducible rfl)
  try simp only [Act.put, List.setIfInBounds_toArray, List.set_cons_zero, List.set_cons_succ]
  refine any_take (i := 1) (v := ?v1) rfl (by kernel_rfl) (by kernel_rfl) (by kernel_rfl) (fun _ _ _ h => h) rfl ?hy1 ?rest1
  case hy1 => (intro w; go_simp; try with_reducible rfl)
  try simp only [Act.put, List.setIfInBounds_toArray, List.set_cons_zero, List.set_cons_succ]
  refine any_take (i := 2) (v := ?v2) rfl (by kernel_rfl) (by kernel_rfl) (by kernel_rfl) (fun _ _ _ h => h) rfl ?hy2 ?rest2
  case hy2 => (intro w; go_simp; try with_reducible rfl)
  try simp only [Act.put, List.setIfInBounds_toArray, List.set_cons_zero, List.set_cons_succ]
  refine any_take (i := 3) (v := ?v3) rfl (by kernel_rfl) (by kernel_rfl) (by kernel_rfl) (fun _ _ _ h => h) rfl ?hy3 ?rest3
  case hy3 => (intro w; go_simp; try with_reducible rfl)
  try simp only [Act.put, List.setIfInBounds_toArray, List.set_cons_zero, List.set_cons_succ]
  refine any_take (i := 4) (v := ?v4) rfl (by kernel_rfl) (by kernel_rfl) (by kernel_rfl) (fun _ _ _ h => h) rfl ?hy4 ?rest4
  case hy4 => (intro w; go_simp; try with_reducible rfl)
  try simp only [Act.put, List.setIfInBounds_toArray, List.set_cons_zero, List.set_cons_succ]
  refine any_take (i := 7) (v := ?v7) rfl (by kernel_rfl) (by kernel_rfl) (by kernel_rfl) (fun _ _ _ h => h) rfl ?hy7 ?rest7
  case hy7 => (intro w; go_simp; try with_reducible rfl)
  try simp only [Act.put, List.setIfInBounds_toArray, List.set_cons_zero, List.set_cons_succ]
  refine any_take (i := 9) (v := ?v9) rfl (by kernel_rfl) (by kernel_rfl) (by kernel_rfl) (fun _ _ _ h => h) rfl ?hy9 ?rest9
  case hy9 => (intro w; go_simp; try with_reducible rfl)
  try simp only [Act.put, List.setIfInBounds_toArray, List.set_cons_zero, List.set_cons_succ]
  refine any_take (i := 10) (v := ?v10) rfl (by kernel_rfl) (by kernel_rfl) (by kernel_rfl) (fun _ _ _ h => h) rfl ?hy10 ?rest10
  case hy10 => (intro w; go_simp; try with_reducible rfl)
  try simp only [Act.put, List.setIfInBounds_toArray, List.set_cons_zero, List.set_cons_succ]
  refine any_take (i := 13) (v := ?v13) rfl (by kernel_rfl) (by kernel_rfl) (by kernel_rfl) (fun _ _ _ h => h) rfl ?hy13 ?rest13
  case hy13 => (intro w; go_simp; try with_reducible rfl)
  try simp only [Act.put, List.setIfInBounds_toArray, List.set_cons_zero, List.set_cons_succ]
  refine any_take (i := 14) (v := ?v14) rfl (by kernel_rfl) (by kernel_rfl) (by kernel_rfl) (fun _ _ _ h => h) rfl ?hy14 ?rest14
  case hy14 => (intro w; go_simp; try with_reducible rfl)
  try simp only [Act.put, List.setIfInBounds_toArray, List.set_cons_zero, List.set_cons_succ]
  refine any_take (i := 17) (v := ?v17) rfl (by kernel_rfl) (by kernel_rfl) (by kernel_rfl) (fun _ _ _ h => h) rfl ?hy17 ?rest17
  case hy17 => (intro w; go_simp; try with_reducible rfl)
  try simp only [Act.put, List.setIfInBounds_toArray, List.set_cons_zero, List.set_cons_succ]
  refine any_take (i := 18) (v := ?v18) rfl (by kernel_rfl) (by kernel_rfl) (by kernel_rfl) (fun _ _ _ h => h) rfl ?hy18 ?rest18
  case hy18 => (intro w; go_simp; try with_reducible rfl)
  try simp only [Act.put, List.setIfInBounds_toArray, List.set_cons_zero, List.set_cons_succ]
  refine any_one (i := 5) (by kernel_rfl) rfl rfl (fun K hK => ?_)
  go_simp
  refine (HZm.out _).mono ?_
  rintro e w3 ⟨rfl, HXw3⟩
  have HEw3 : Hid (Ext w w3) := HEw2.out.trans HXw3
  go_simp
  refine hK.out _ _ ?_
  clear hK K HXw3
  try simp only [Act.put, List.setIfInBounds_toArray, List.set_cons_zero, List.set_cons_succ]
  refine any_take (i := 6) (v := ?v6) rfl (by kernel_rfl) (by kernel_rfl) (by kernel_rfl) (fun _ _ _ h => h) rfl ?hy6 ?rest6
  case hy6 => (intro w; go_simp; try with_reducible rfl)
  try simp only [Act.put, List.setIfInBounds_toArray, List.set_cons_zero, List.set_cons_succ]
  refine any_take (i := 8) (v := ?v8) rfl (by kernel_rfl) (by kernel_rfl) (by kernel_rfl) (fun _ _ _ h => h) rfl ?hy8 ?rest8
  case hy8 => (intro w; go_simp; try with_reducible rfl)
  try simp only [Act.put, List.setIfInBounds_toArray, List.set_cons_zero, List.set_cons_succ]
  refine any_one (i := 11) (by kernel_rfl) rfl rfl (fun K hK => ?_)
  go_simp
  refine (HZs.out _).mono ?_
  rintro e w4 ⟨rfl, HXw4⟩
  have HEw4 : Hid (Ext w w4) := HEw3.out.trans HXw4
  go_simp
  refine hK.out _ _ ?_
  clear hK K HXw4
  try simp only [Act.put, List.setIfInBounds_toArray, List.set_cons_zero, List.set_cons_succ]
  refine any_take (i := 12) (v := ?v12) rfl (by kernel_rfl) (by kernel_rfl) (by kernel_rfl) (fun _ _ _ h => h) rfl ?hy12 ?rest12
  case hy12 => (intro w; go_simp; try with_reducible rfl)
  try simp only [Act.put, List.setIfInBounds_toArray, List.set_cons_zero, List.set_cons_succ]
  refine any_one (i := 15) (by kernel_rfl) rfl rfl (fun K hK => ?_)
  go_simp
  refine (HLm.out _).mono ?_
  rintro e w5 ⟨rfl, HXw5⟩
  have HEw5 : Hid (Ext w w5) := HEw4.out.trans HXw5
  go_simp
  refine hK.out _ _ ?_
  clear hK K HXw5
  try simp only [Act.put, List.setIfInBounds_toArray, List.set_cons_zero, List.set_cons_succ]
  refine any_take (i := 16) (v := ?v16) rfl (by kernel_rfl) (by kernel_rfl) (by kernel_rfl) (fun _ _ _ h => h) rfl ?hy16 ?rest16
  case hy16 => (intro w; go_simp; try with_reducible rfl)
  try simp only [Act.put, List.setIfInBounds_toArray, List.set_cons_zero, List.set_cons_succ]
  refine any_one (i := 19) (by kernel_rfl) rfl rfl (fun K hK => ?_)
  go_simp
  refine (HLs.out _).mono ?_
  rintro e w6 ⟨rfl, HXw6⟩
  have HEw6 : Hid (Ext w w6) := HEw5.out.trans HXw6
  go_simp
  refine hK.out _ _ ?_
  clear hK K HXw6
  try simp only [Act.put, List.setIfInBounds_toArray, List.set_cons_zero, List.set_cons_succ]
  refine any_take (i := 20) (v := ?v20) rfl (by kernel_rfl) (by kernel_rfl) (by kernel_rfl) (fun _ _ _ h => h) rfl ?hy20 ?rest20
  case hy20 => (intro w; go_simp; try with_reducible rfl)
  try simp only [Act.put, List.setIfInBounds_toArray, List.set_cons_zero, List.set_cons_succ]
  rw [HT.out]
  refine any_one (i := 21) (by kernel_rfl) rfl rfl (fun K hK => ?_)
  go_simp
  refine (HM.out _).mono ?_
  rintro e w7 ⟨rfl, HXw7⟩
  have HEw7 : Hid (Ext w w7) := HEw6.out.trans HXw7
  go_simp
  refine hK.out _ _ ?_
  clear hK K HXw7
  try simp only [Act.put, List.setIfInBounds_toArray, List.set_cons_zero, List.set_cons_succ]
  refine any_take (i := 22) (v := ?v22) rfl (by kernel_rfl) (by kernel_rfl) (by kernel_rfl) (fun _ _ _ h => h) rfl ?hy22 ?rest22
  case hy22 => (intro w; go_simp; try with_reducible rfl)
  try simp only [Act.put, List.setIfInBounds_toArray, List.set_cons_zero, List.set_cons_succ]
  refine any_take (i := 23) (v := ?v23) rfl (by kernel_rfl) (by kernel_rfl) (by kernel_rfl) (fun _ _ _ h => h) rfl ?hy23 ?rest23
  case hy23 => (intro w; go_simp; try with_reducible rfl)
  try simp only [Act.put, List.setIfInBounds_toArray, List.set_cons_zero, List.set_cons_succ]
  refine any_take (i := 24) (v := ?v24) rfl (by kernel_rfl) (by kernel_rfl) (by kernel_rfl) (fun _ _ _ h => h) rfl ?hy24 ?rest24
  case hy24 => (intro w; go_simp; try with_reducible rfl)
  try simp only [Act.put, List.setIfInBounds_toArray, List.set_cons_zero, List.set_cons_succ]
  refine any_take (i := 25) (v := ?v25) rfl (by kernel_rfl) (by kernel_rfl) (by kernel_rfl) (fun _ _ _ h => h) rfl ?hy25 ?rest25
  case hy25 => (intro w; go_simp; try with_reducible rfl)
  try simp only [Act.put, List.setIfInBounds_toArray, List.set_cons_zero, List.set_cons_succ]
  refine any_take (i := 26) (v := ?v26) rfl (by kernel_rfl) (by kernel_rfl) (by kernel_rfl) (fun _ _ _ h => h) rfl ?hy26 ?rest26
  case hy26 => (intro w; go_simp; try with_reducible rfl)
  try simp only [Act.put, List.setIfInBounds_toArray, List.set_cons_zero, List.set_cons_succ]
  refine wpAny_done (by kernel_rfl) ?_ _
  refine NoPanic.normal ?_
  go_wp2
  go_ret
  exact ⟨rfl, HEw7.out⟩
set_option maxHeartbeats 1000000 in
/-- Seal: a text; the error's number. -/
theorem rseal_any (key nonce s more : ByteArray) (hm : more.size ≤ 1000) (hs : s.size ≤ 3000) (w : World) :
    Calls Tryd.prog 11 #[.string key, .string nonce, .string s, .string more] w fun e w' => e = .returned (.tuple #[.string (sealR key nonce s more).1, .int .i64 (sealR key nonce s more).2]) ∧ Ext w w' := by
  unfold sealR
  by_cases h : key.size = 32 ∧ nonce.size = 12
  · rw [if_pos h]
    have HC := rxor_any key nonce 1 s h.1 h.2 (by decide) (by omega) w
    have HT : Hid (∀ W, Calls Tryd.prog 19 #[.string key, .string nonce, .string (xorS key nonce 1 s), .string more] W fun e w' => e = .returned (.string (tagS key nonce (xorS key nonce 1 s) more)) ∧ Ext W w') := fun W => rtag_any key nonce _ more h.1 h.2 hm (by rw [xorS_size]; exact hs) W
    have HS : Hid (xorS key nonce 1 s ++ tagS key nonce (xorS key nonce 1 s) more = sealS key nonce s more) := rfl
    have q1 : ¬ 9223372036854775807 < (xorS key nonce 1 s).size + (tagS key nonce (xorS key nonce 1 s) more).size := by rw [xorS_size, tagS_size]; omega
    generalize sealS key nonce s more = SS at *
    generalize tagS key nonce (xorS key nonce 1 s) more = tt at *
    generalize xorS key nonce 1 s = x at *
    have hS := HS.out
    go_enter Tryd.func11, Tryd.ntmps11
    go_wp2_with fail
    refine HC.mono ?_
    rintro e w1 ⟨rfl, HX1⟩
    go_wp2_with fail
    refine (HT.out _).mono ?_
    rintro e w2 ⟨rfl, HX2⟩
    go_wp2
    refine bodyPost_ret (v := .tuple #[.string SS, .int .i64 0]) (by simp [results, Tryd.results11, go_sem]) rfl ⟨rfl, HX1.trans HX2⟩
  · rw [if_neg h]
    have HC := rxor_bad key nonce 1 s (by omega) w
    go_enter Tryd.func11, Tryd.ntmps11
    go_wp2_with fail
    refine HC.mono ?_
    rintro e w1 ⟨rfl, HX1⟩
    go_wp2
    refine bodyPost_ret (v := .tuple #[.string ⟨#[]⟩, .int .i64 2]) (by simp [results, Tryd.results11, go_sem]) rfl ⟨rfl, HX1⟩
set_option maxRecDepth 10000 in
set_option maxHeartbeats 2000000 in
/-- Open: back again; the error's number. -/
theorem ropen_any (key nonce s more : ByteArray) (hm : more.size ≤ 1000) (hs : s.size ≤ 3000) (w : World) :
    Calls Tryd.prog 13 #[.string key, .string nonce, .string s, .string more] w fun e w' => e = .returned (.tuple #[.string (openR key nonce s more).1, .int .i64 (openR key nonce s more).2]) ∧ Ext w w' := by
  unfold openR
  by_cases h0 : s.size < 16
  · rw [if_pos (Or.inl h0)]
    have h1 : (s.size : Int) < 16 := by omega
    go_enter Tryd.func13, Tryd.ntmps13
    go_wp2
    refine bodyPost_ret (v := .tuple #[.string ⟨#[]⟩, .int .i64 2]) (by simp [results, Tryd.results13, go_sem]) rfl ⟨rfl, Ext.refl _⟩
  · have h1 : ¬ (s.size : Int) < 16 := by omega
    by_cases hk : key.size = 32
    · have hk1 : (key.size : Int) = 32 := by omega
      by_cases ho : nonce.size = 12
      · rw [if_neg (by omega)]
        have ho1 : (nonce.size : Int) = 12 := by omega
        obtain ⟨p, hp⟩ : ∃ p, s.size - 16 = p := ⟨_, rfl⟩
        have e1 : IntKind.i64.wrap ((s.size : Int) - 16) = (p : Int) := by rw [IntKind.wrap_i64]; omega
        have p0 : (0 : Int) ≤ (p : Int) := by omega
        have p1 : (p : Int) ≤ (s.size : Int) := by omega
        have p2 : p ≤ s.size := by omega
        have HBo : Hid (s.extract 0 p = bodyS s) := by unfold bodyS; rw [hp]; rfl
        have HTl : Hid (s.extract p s.size = tailS s) := by unfold tailS; rw [hp]; rfl
        have HT : Hid (∀ W, Calls Tryd.prog 19 #[.string key, .string nonce, .string (bodyS s), .string more] W fun e w' => e = .returned (.string (tagS key nonce (bodyS s) more)) ∧ Ext W w') := fun W => rtag_any key nonce _ more hk ho hm (by rw [bodyS_size]; omega) W
        have HC : Hid (∀ W, Calls Tryd.prog 18 #[.string key, .string nonce, .int .u32 1, .string (bodyS s)] W fun e w' => e = .returned (.tuple #[.string (xorS key nonce 1 (bodyS s)), .int .i64 0]) ∧ Ext W w') := fun W => rxor_any key nonce 1 (bodyS s) hk ho (by decide) (by rw [bodyS_size]; omega) W
        generalize tagS key nonce (bodyS s) more = tt at *
        generalize xorS key nonce 1 (bodyS s) = oo at *
        generalize bodyS s = bo at *
        generalize tailS s = tl at *
        clear hp
        have hB := HBo.out
        have hT := HTl.out
        obtain ⟨R, HR⟩ : ∃ R, Hid ((if tt = tl then (oo, (0 : Int)) else ((⟨#[]⟩ : ByteArray), 4)) = R) := ⟨_, rfl⟩
        rw [HR.out]
        go_enter Tryd.func13, Tryd.ntmps13
        go_wp2_with fail
        have HEw2 : Hid (Ext w w.drew) := (Ext.refl w).drew
        refine wp_region_noPanic ?_
        refine wp_region_any (by kernel_rfl) ?_
        rw [show ({ w with drawn := w.drawn + 1 } : World) = w.drew from rfl]
        generalize w.drew = w2 at *
        refine any_take (i := 0) (v := ?v0) rfl (by kernel_rfl) (by kernel_rfl) (by kernel_rfl) (fun _ _ _ h => h) rfl ?hy0 ?rest0
        case hy0 => (intro w; go_simp; try with_reducible rfl)
        try simp only [Act.put, List.setIfInBounds_toArray, List.set_cons_zero, List.set_cons_succ]
        refine any_take (i := 1) (v := ?v1) rfl (by kernel_rfl) (by kernel_rfl) (by kernel_rfl) (fun _ _ _ h => h) rfl ?hy1 ?rest1
        case hy1 => (intro w; go_simp; try with_reducible rfl)
        try simp only [Act.put, List.setIfInBounds_toArray, List.set_cons_zero, List.set_cons_succ]
        refine any_take (i := 2) (v := ?v2) rfl (by kernel_rfl) (by kernel_rfl) (by kernel_rfl) (fun _ _ _ h => h) rfl ?hy2 ?rest2
        case hy2 => (intro w; go_simp; try with_reducible rfl)
        try simp only [Act.put, List.setIfInBounds_toArray, List.set_cons_zero, List.set_cons_succ]
        refine any_take (i := 3) (v := ?v3) rfl (by kernel_rfl) (by kernel_rfl) (by kernel_rfl) (fun _ _ _ h => h) rfl ?hy3 ?rest3
        case hy3 => (intro w; go_simp; try with_reducible rfl)
        try simp only [Act.put, List.setIfInBounds_toArray, List.set_cons_zero, List.set_cons_succ]
        refine any_take (i := 5) (v := ?v5) rfl (by kernel_rfl) (by kernel_rfl) (by kernel_rfl) (fun _ _ _ h => h) rfl ?hy5 ?rest5
        case hy5 => (intro w; go_simp; try with_reducible rfl)
        try simp only [Act.put, List.setIfInBounds_toArray, List.set_cons_zero, List.set_cons_succ]
        refine any_take (i := 6) (v := ?v6) rfl (by kernel_rfl) (by kernel_rfl) (by kernel_rfl) (fun _ _ _ h => h) rfl ?hy6 ?rest6
        case hy6 => (intro w; go_simp; try with_reducible rfl)
        try simp only [Act.put, List.setIfInBounds_toArray, List.set_cons_zero, List.set_cons_succ]
        refine any_take (i := 7) (v := ?v7) rfl (by kernel_rfl) (by kernel_rfl) (by kernel_rfl) (fun _ _ _ h => h) rfl ?hy7 ?rest7
        case hy7 => (intro w; go_simp; try with_reducible rfl)
        try simp only [Act.put, List.setIfInBounds_toArray, List.set_cons_zero, List.set_cons_succ]
        refine any_take (i := 8) (v := ?v8) rfl (by kernel_rfl) (by kernel_rfl) (by kernel_rfl) (fun _ _ _ h => h) rfl ?hy8 ?rest8
        case hy8 => (intro w; go_simp; try with_reducible rfl)
        try simp only [Act.put, List.setIfInBounds_toArray, List.set_cons_zero, List.set_cons_succ]
        refine any_take (i := 9) (v := ?v9) rfl (by kernel_rfl) (by kernel_rfl) (by kernel_rfl) (fun _ _ _ h => h) rfl ?hy9 ?rest9
        case hy9 => (intro w; go_simp; try with_reducible rfl)
        try simp only [Act.put, List.setIfInBounds_toArray, List.set_cons_zero, List.set_cons_succ]
        refine any_one (i := 4) (by kernel_rfl) rfl rfl (fun K hK => ?_)
        go_simp
        refine (HT.out _).mono ?_
        rintro e w3 ⟨rfl, HXw3⟩
        have HEw3 : Hid (Ext w w3) := HEw2.out.trans HXw3
        go_simp
        refine hK.out _ _ ?_
        clear hK K HXw3
        try simp only [Act.put, List.setIfInBounds_toArray, List.set_cons_zero, List.set_cons_succ]
        refine any_take (i := 10) (v := ?v10) rfl (by kernel_rfl) (by kernel_rfl) (by kernel_rfl) (fun _ _ _ h => h) rfl ?hy10 ?rest10
        case hy10 => (intro w; go_simp; try with_reducible rfl)
        try simp only [Act.put, List.setIfInBounds_toArray, List.set_cons_zero, List.set_cons_succ]
        refine wpAny_done (by kernel_rfl) ?_ _
        refine NoPanic.normal ?_
        by_cases he : tt = tl
        · obtain rfl : (oo, (0 : Int)) = R := by rw [← HR.out, if_pos he]
          have hd : (tt.toList == tl.toList) = true := by rw [he]; exact beq_self_eq_true _
          rw [hd]
          go_wp2_with fail
          refine (HC.out _).mono ?_
          rintro e w4 ⟨rfl, HX4⟩
          go_wp2
          refine bodyPost_ret (v := .tuple #[.string oo, .int .i64 0]) (by simp [results, Tryd.results13, go_sem]) rfl ⟨rfl, HEw3.out.trans HX4⟩
        · obtain rfl : ((⟨#[]⟩ : ByteArray), (4 : Int)) = R := by rw [← HR.out, if_neg he]
          have hd : (tt.toList == tl.toList) = false := toList_ne he
          rw [hd]
          go_wp2
          refine bodyPost_ret (v := .tuple #[.string ⟨#[]⟩, .int .i64 4]) (by simp [results, Tryd.results13, go_sem]) rfl ⟨rfl, HEw3.out⟩
      · rw [if_pos (by omega)]
        have ho1 : ¬ (nonce.size : Int) = 12 := by omega
        go_enter Tryd.func13, Tryd.ntmps13
        go_wp2
        refine bodyPost_ret (v := .tuple #[.string ⟨#[]⟩, .int .i64 2]) (by simp [results, Tryd.results13, go_sem]) rfl ⟨rfl, Ext.refl _⟩
    · rw [if_pos (by omega)]
      have hk1 : ¬ (key.size : Int) = 32 := by omega
      go_enter Tryd.func13, Tryd.ntmps13
      go_wp2
      refine bodyPost_ret (v := .tuple #[.string ⟨#[]⟩, .int .i64 2]) (by simp [results, Tryd.results13, go_sem]) rfl ⟨rfl, Ext.refl _⟩
end Go.Proofs.YtbcgipapbamgfaaDoor
