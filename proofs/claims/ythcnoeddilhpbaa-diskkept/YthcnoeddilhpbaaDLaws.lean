/-
  DiskNone, DiskSure, DiskBegins, called: true; nothing old is turned.
-/
import Derived.Test.YthcnoeddilhpbaaDPl
namespace Go.Proofs.Ythcnoeddilhpbaa
open Go.RowKit
set_option maxHeartbeats 1000000 in
theorem diskNone_any (k : Int) (x : ByteArray) (K : Nat) (w : World) :
    Calls Try.prog 7 #[.agg #[.int .i64 k, .string x, .int .u64 (K : Int)]] w fun e w' => e = .returned (.bool true) ∧ Ext w w' := by
  go_enter Try.func7, Try.ntmps7
  go_wp2_with fail
  refine (ddo_nil k x K _).mono ?_
  rintro e w1 ⟨rfl, HX⟩
  have HE1 : Hid (Ext w w1) := ((Ext.refl w).alloc _).trans HX
  clear HX
  go_wp2_with fail
  refine (dtext_nil _).mono ?_
  rintro e w2 ⟨rfl, HX⟩
  have HE2 : Hid (Ext w w2) := HE1.out.trans HX
  clear HX
  go_wp2_with fail
  refine (dsynced_nil _).mono ?_
  rintro e w3 ⟨rfl, HX⟩
  have HE3 : Hid (Ext w w3) := HE2.out.trans HX
  clear HX
  go_wp2_with fail
  refine (awake_any _).mono ?_
  rintro e w4 ⟨rfl, HX⟩
  have HE4 : Hid (Ext w w4) := HE3.out.trans HX
  clear HX
  go_wp2
  go_ret
  exact ⟨rfl, HE4.out⟩
theorem sure_nums (T x : ByteArray) (y K : Nat) (h : dOk T y) : ∃ T2 : ByteArray, (dDo (dDo T y 1 x 0).1 (dDo T y 1 x 0).2.1 3 ⟨#[]⟩ K).1 = T2 ∧ (dDo (dDo T y 1 x 0).1 (dDo T y 1 x 0).2.1 3 ⟨#[]⟩ K).2.1 = T2.size ∧ y ≤ T2.size ∧ T2.extract 0 y = T.extract 0 y ∧ y ≤ T.size := by
  have h1 := dDo_ok h 1 x 0
  have e : (dDo T y 1 x 0).2.1 = y ∧ ((dDo T y 1 x 0).1).extract 0 y = T.extract 0 y := by
    unfold dDo
    rw [if_pos rfl]
    split
    · exact ⟨rfl, rfl⟩
    · refine ⟨rfl, ?_⟩
      apply ba_eq
      rw [ba_ext, ba_ext, ba_app]
      have := h.1
      rw [List.drop_zero, List.drop_zero, Nat.sub_zero, List.take_append_of_le_length (by rw [ba_len]; exact this)]
  rw [e.1] at h1 ⊢
  have h2 := dcrash_sure h1 K
  refine ⟨_, rfl, ?_, ?_, ?_, h.1⟩
  · rfl
  · exact h2.1
  · exact h2.2.trans e.2
set_option maxHeartbeats 2000000 in
theorem diskSure_any (v : Value) (n : Nat) (k : Nat → Int) (x : Nat → ByteArray) (K : Nat → Nat) (hKs : ∀ i, i < n → K i < 18446744073709551616) (s : ByteArray) (_hs : s.size ≤ maxLen) (q : Nat) (hq : q < 18446744073709551616) (w : World) (hL : ActsIs w v n k x K) :
    Calls Try.prog 4 #[v, .string s, .int .u64 (q : Int)] w fun e w' => e = .returned (.bool true) ∧ Ext w w' := by
  have HL : Hid (ActsIs w v n k x K) := hL
  obtain ⟨a, cap, rfl, _⟩ := hL
  have HK : Hid (∀ i, i < n → K i < 18446744073709551616) := hKs
  have HE0 : Hid (Ext w w) := Ext.refl w
  have HF : Hid (Calls Try.prog 8 #[.slice a n cap] w fun e w' => FewP x n w e w') := few_any _ n k x K w HL.out
  clear hKs
  go_enter Try.func4, Try.ntmps4
  go_wp2_with fail
  refine HF.out.mono ?_
  rintro e w1 ⟨b, rfl, hb, HX⟩
  have HE1 : Hid (Ext w w1) := HX
  clear HX HF
  by_cases hgo : b = true ∧ ¬ 10000 < s.size
  · obtain ⟨rfl, h2⟩ := hgo
    have h3 : ¬ (10000 : Int) < (s.size : Int) := by omega
    have Hn : Hid (n ≤ 100000) := by show _ ≤ _; have := (hb rfl).1; omega
    clear hb h2
    go_wp2_with fail
    refine (pnew_any w w1 HE1.out).mono ?_
    rintro e w2 ⟨da, rfl, HP, HX⟩
    have HP0 : Hid (PlD w (.pointer (some da)) (dPl k x K 0).1 (dPl k x K 0).2 w2) := HP
    clear HP HX HE1
    go_wp2_with fail
    go_loopw [8] (fun u8 wr => ∃ j : Nat, j ≤ n ∧ u8 = .int .i64 j ∧ Hid (PlD w (.pointer (some da)) (dPl k x K j).1 (dPl k x K j).2 wr)) (fun u8 _ => n - (intOf u8).toNat)
    case atStart => exact ⟨0, Nat.zero_le _, rfl, HP0⟩
    case round =>
      obtain ⟨j, hj, rfl, HP⟩ := hrel
      clear HP0
      by_cases hlt : j < n
      · obtain ⟨q1, q0, qw⟩ := lp_nums j n hlt Hn.out
        obtain ⟨g, off, rfl, hbl, hc0, hc1, hc2⟩ := (HL.out.ext HP.out.old).get hlt
        have HD : Hid (∀ W, PlD w (.pointer (some da)) (dPl k x K j).1 (dPl k x K j).2 W → Calls Try.prog 12 #[.pointer (some da), .agg #[.int .i64 (k j), .string (x j), .int .u64 (K j : Int)]] W fun e w' => e = .returned (.int .i64 (dDo (dPl k x K j).1 (dPl k x K j).2 (k j) (x j) (K j)).2.2) ∧ PlD w (.pointer (some da)) (dPl k x K (j + 1)).1 (dPl k x K (j + 1)).2 w') := fun W h => pdo_any (k j) (x j) (K j) (dPl_ok k x K j) (HK.out j hlt) h
        go_wp2_with fail
        refine (HD.out _ HP.out).mono ?_
        rintro e w3 ⟨rfl, HPn⟩
        have HP3 : Hid _ := HPn
        clear HPn HP HD
        go_wp2
        go_roundw
        case rel => exact ⟨j + 1, hlt, by push_cast; rfl, HP3⟩
        case measure => exact lp_meas hlt
      · have hjn : j = n := by omega
        have hnl : ¬ (j : Int) < (n : Int) := by omega
        obtain ⟨T2, e1, e2, n1, n2, n3⟩ := sure_nums (dPl k x K j).1 s (dPl k x K j).2 q (dPl_ok k x K j)
        have hok := dPl_ok k x K j
        have C1 : Hid (∀ W, PlD w (.pointer (some da)) (dPl k x K j).1 (dPl k x K j).2 W → Calls Try.prog 12 #[.pointer (some da), .agg #[.int .i64 1, .string s, .int .u64 0]] W fun e w' => e = .returned (.int .i64 (dDo (dPl k x K j).1 (dPl k x K j).2 1 s 0).2.2) ∧ PlD w (.pointer (some da)) (dDo (dPl k x K j).1 (dPl k x K j).2 1 s 0).1 (dDo (dPl k x K j).1 (dPl k x K j).2 1 s 0).2.1 w') := fun W h => pdo_any 1 s 0 hok (by decide) h
        have C2 : Hid (∀ W, PlD w (.pointer (some da)) (dDo (dPl k x K j).1 (dPl k x K j).2 1 s 0).1 (dDo (dPl k x K j).1 (dPl k x K j).2 1 s 0).2.1 W → Calls Try.prog 12 #[.pointer (some da), .agg #[.int .i64 3, .string ⟨#[]⟩, .int .u64 (q : Int)]] W fun e w' => e = .returned (.int .i64 (dDo (dDo (dPl k x K j).1 (dPl k x K j).2 1 s 0).1 (dDo (dPl k x K j).1 (dPl k x K j).2 1 s 0).2.1 3 ⟨#[]⟩ q).2.2) ∧ PlD w (.pointer (some da)) T2 T2.size w') := fun W h => by
          have := pdo_any 3 ⟨#[]⟩ q (dDo_ok hok 1 s 0) hq h
          rw [e1, e2] at this
          exact this
        clear e1 e2 hok
        generalize (dDo (dDo (dPl k x K j).1 (dPl k x K j).2 1 s 0).1 (dDo (dPl k x K j).1 (dPl k x K j).2 1 s 0).2.1 3 ⟨#[]⟩ q).2.2 = r2 at *
        generalize dDo (dPl k x K j).1 (dPl k x K j).2 1 s 0 = D1 at *
        generalize (dPl k x K j).1 = T at *
        generalize (dPl k x K j).2 = y at *
        have m1 : ¬ (y : Int) < 0 := by omega
        have m2 : ¬ (T.size : Int) < (y : Int) := by omega
        have m3 : (y : Int) ≤ (T2.size : Int) := by omega
        have m4 : (y : Int) ≤ (T.size : Int) := by omega
        have m5 : (0 : Int) ≤ (y : Int) := by omega
        have m6 : ((T2.extract 0 y).toList == (T.extract 0 y).toList) = true := by rw [n2]; exact beq_self_eq_true _
        clear n1 n2 n3 hjn
        go_wp2_with fail
        refine (ptext_any HP.out).mono ?_
        rintro e w3 ⟨rfl, HX⟩
        have HP3 : Hid (PlD w (.pointer (some da)) T y w3) := HP.out.ext HX
        clear HP HX
        go_wp2_with fail
        refine (psync_any HP3.out).mono ?_
        rintro e w4 ⟨rfl, HX⟩
        have HP4 : Hid (PlD w (.pointer (some da)) T y w4) := HP3.out.ext HX
        clear HP3 HX
        go_wp2_with fail
        refine (C1.out _ HP4.out).mono ?_
        rintro e w5 ⟨rfl, HPn⟩
        have HP5 : Hid (PlD w (.pointer (some da)) D1.1 D1.2.1 w5) := HPn
        clear HP4 HPn C1
        go_wp2_with fail
        refine (C2.out _ HP5.out).mono ?_
        rintro e w6 ⟨rfl, HPn⟩
        have HP6 : Hid (PlD w (.pointer (some da)) T2 T2.size w6) := HPn
        clear HP5 HPn C2
        go_wp2_with fail
        refine (ptext_any HP6.out).mono ?_
        rintro e w7 ⟨rfl, HX⟩
        have HP7 : Hid (PlD w (.pointer (some da)) T2 T2.size w7) := HP6.out.ext HX
        clear HP6 HX
        go_wp2_with fail
        have HS := HP7.out.ext (Ext.refl w7).drew
        clear HP7
        refine wp_region_noPanic ?_
        refine wp_region_held (S := PlD w (.pointer (some da)) T2 T2.size) (by kernel_rfl) ?_
        rw [show ({ w7 with drawn := w7.drawn + 1 } : World) = w7.drew from rfl]
        generalize w7.drew = w8 at *
        refine held_take (i := 0) (v := ?v0) rfl (by kernel_rfl) (by kernel_rfl) (by kernel_rfl) (fun _ _ _ h => h) rfl ?hy0 HS ?rest0
        case hy0 => (intro wx hSx; go_simp; try with_reducible rfl)
        try simp only [Act.put, List.setIfInBounds_toArray, List.set_cons_zero, List.set_cons_succ]
        refine held_take (i := 1) (v := ?v1) rfl (by kernel_rfl) (by kernel_rfl) (by kernel_rfl) (fun _ _ _ h => h) rfl ?hy1 HS ?rest1
        case hy1 => (intro wx hSx; go_simp; try with_reducible rfl)
        try simp only [Act.put, List.setIfInBounds_toArray, List.set_cons_zero, List.set_cons_succ]
        refine held_take (i := 2) (v := ?v2) rfl (by kernel_rfl) (by kernel_rfl) (by kernel_rfl) (fun _ _ _ h => h) rfl ?hy2 HS ?rest2
        case hy2 => (intro wx hSx; go_simp; try with_reducible rfl)
        try simp only [Act.put, List.setIfInBounds_toArray, List.set_cons_zero, List.set_cons_succ]
        refine held_take (i := 3) (v := ?v3) rfl (by kernel_rfl) (by kernel_rfl) (by kernel_rfl) (fun _ _ _ h => h) rfl ?hy3 HS ?rest3
        case hy3 => (intro wx hSx; go_simp; try with_reducible rfl)
        try simp only [Act.put, List.setIfInBounds_toArray, List.set_cons_zero, List.set_cons_succ]
        refine held_take (i := 4) (v := ?v4) rfl (by kernel_rfl) (by kernel_rfl) (by kernel_rfl) (fun _ _ _ h => h) rfl ?hy4 HS ?rest4
        case hy4 => (intro wx hSx; go_simp; try with_reducible rfl)
        try simp only [Act.put, List.setIfInBounds_toArray, List.set_cons_zero, List.set_cons_succ]
        refine held_take (i := 5) (v := ?v5) rfl (by kernel_rfl) (by kernel_rfl) (by kernel_rfl) (fun _ _ _ h => h) rfl ?hy5 HS ?rest5
        case hy5 => (intro wx hSx; go_simp; try with_reducible rfl)
        try simp only [Act.put, List.setIfInBounds_toArray, List.set_cons_zero, List.set_cons_succ]
        refine held_take (i := 6) (v := ?v6) rfl (by kernel_rfl) (by kernel_rfl) (by kernel_rfl) (fun _ _ _ h => h) rfl ?hy6 HS ?rest6
        case hy6 => (intro wx hSx; go_simp; try with_reducible rfl)
        try simp only [Act.put, List.setIfInBounds_toArray, List.set_cons_zero, List.set_cons_succ]
        refine held_take (i := 7) (v := ?v7) rfl (by kernel_rfl) (by kernel_rfl) (by kernel_rfl) (fun _ _ _ h => h) rfl ?hy7 HS ?rest7
        case hy7 => (intro wx hSx; go_simp; try with_reducible rfl)
        try simp only [Act.put, List.setIfInBounds_toArray, List.set_cons_zero, List.set_cons_succ]
        refine held_take (i := 8) (v := ?v8) rfl (by kernel_rfl) (by kernel_rfl) (by kernel_rfl) (fun _ _ _ h => h) rfl ?hy8 HS ?rest8
        case hy8 => (intro wx hSx; go_simp; try with_reducible rfl)
        try simp only [Act.put, List.setIfInBounds_toArray, List.set_cons_zero, List.set_cons_succ]
        refine held_take (i := 9) (v := ?v9) rfl (by kernel_rfl) (by kernel_rfl) (by kernel_rfl) (fun _ _ _ h => h) rfl ?hy9 HS ?rest9
        case hy9 => (intro wx hSx; go_simp; try with_reducible rfl)
        try simp only [Act.put, List.setIfInBounds_toArray, List.set_cons_zero, List.set_cons_succ]
        refine held_take (i := 10) (v := ?v10) rfl (by kernel_rfl) (by kernel_rfl) (by kernel_rfl) (fun _ _ _ h => h) rfl ?hy10 HS ?rest10
        case hy10 => (intro wx hSx; go_simp; try with_reducible rfl)
        try simp only [Act.put, List.setIfInBounds_toArray, List.set_cons_zero, List.set_cons_succ]
        refine held_take (i := 11) (v := ?v11) rfl (by kernel_rfl) (by kernel_rfl) (by kernel_rfl) (fun _ _ _ h => h) rfl ?hy11 HS ?rest11
        case hy11 => (intro wx hSx; go_simp; try with_reducible rfl)
        try simp only [Act.put, List.setIfInBounds_toArray, List.set_cons_zero, List.set_cons_succ]
        refine held_take (i := 12) (v := ?v12) rfl (by kernel_rfl) (by kernel_rfl) (by kernel_rfl) (fun _ _ _ h => h) rfl ?hy12 HS ?rest12
        case hy12 => (intro wx hSx; go_simp; try with_reducible rfl)
        try simp only [Act.put, List.setIfInBounds_toArray, List.set_cons_zero, List.set_cons_succ]
        refine held_take (i := 13) (v := ?v13) rfl (by kernel_rfl) (by kernel_rfl) (by kernel_rfl) (fun _ _ _ h => h) rfl ?hy13 HS ?rest13
        case hy13 => (intro wx hSx; go_simp; try with_reducible rfl)
        try simp only [Act.put, List.setIfInBounds_toArray, List.set_cons_zero, List.set_cons_succ]
        refine held_take (i := 14) (v := ?v14) rfl (by kernel_rfl) (by kernel_rfl) (by kernel_rfl) (fun _ _ _ h => h) rfl ?hy14 HS ?rest14
        case hy14 => (intro wx hSx; go_simp; try with_reducible rfl)
        try simp only [Act.put, List.setIfInBounds_toArray, List.set_cons_zero, List.set_cons_succ]
        refine held_take (i := 16) (v := ?v16) rfl (by kernel_rfl) (by kernel_rfl) (by kernel_rfl) (fun _ _ _ h => h) rfl ?hy16 HS ?rest16
        case hy16 => (intro wx hSx; go_simp; try with_reducible rfl)
        try simp only [Act.put, List.setIfInBounds_toArray, List.set_cons_zero, List.set_cons_succ]
        refine held_take (i := 17) (v := ?v17) rfl (by kernel_rfl) (by kernel_rfl) (by kernel_rfl) (fun _ _ _ h => h) rfl ?hy17 HS ?rest17
        case hy17 => (intro wx hSx; go_simp; try with_reducible rfl)
        try simp only [Act.put, List.setIfInBounds_toArray, List.set_cons_zero, List.set_cons_succ]
        refine held_one (i := 15) (by kernel_rfl) rfl rfl (fun K hK => ?_)
        go_simp
        refine (psync_any HS).mono ?_
        rintro e w9 ⟨rfl, HX⟩
        have Hw9 := HS.ext HX
        clear HX
        try go_simp
        refine hK.out _ _ ⟨Hw9, ?_⟩
        clear hK K
        try simp only [Act.put, List.setIfInBounds_toArray, List.set_cons_zero, List.set_cons_succ]
        refine held_take (i := 18) (v := ?v18) rfl (by kernel_rfl) (by kernel_rfl) (by kernel_rfl) (fun _ _ _ h => h) rfl ?hy18 Hw9 ?rest18
        case hy18 => (intro wx hSx; go_simp; try with_reducible rfl)
        try simp only [Act.put, List.setIfInBounds_toArray, List.set_cons_zero, List.set_cons_succ]
        refine held_take (i := 19) (v := ?v19) rfl (by kernel_rfl) (by kernel_rfl) (by kernel_rfl) (fun _ _ _ h => h) rfl ?hy19 Hw9 ?rest19
        case hy19 => (intro wx hSx; go_simp; try with_reducible rfl)
        try simp only [Act.put, List.setIfInBounds_toArray, List.set_cons_zero, List.set_cons_succ]
        refine held_take (i := 20) (v := ?v20) rfl (by kernel_rfl) (by kernel_rfl) (by kernel_rfl) (fun _ _ _ h => h) rfl ?hy20 Hw9 ?rest20
        case hy20 => (intro wx hSx; go_simp; try with_reducible rfl)
        try simp only [Act.put, List.setIfInBounds_toArray, List.set_cons_zero, List.set_cons_succ]
        refine held_one (i := 21) (by kernel_rfl) rfl rfl (fun K hK => ?_)
        go_simp
        refine (awake_any _).mono ?_
        rintro e w10 ⟨rfl, HX⟩
        have Hw10 := Hw9.ext HX
        clear HX
        try go_simp
        refine hK.out _ _ ⟨Hw10, ?_⟩
        clear hK K
        try simp only [Act.put, List.setIfInBounds_toArray, List.set_cons_zero, List.set_cons_succ]
        refine held_take (i := 22) (v := ?v22) rfl (by kernel_rfl) (by kernel_rfl) (by kernel_rfl) (fun _ _ _ h => h) rfl ?hy22 Hw10 ?rest22
        case hy22 => (intro wx hSx; go_simp; try with_reducible rfl)
        try simp only [Act.put, List.setIfInBounds_toArray, List.set_cons_zero, List.set_cons_succ]
        refine held_take (i := 23) (v := ?v23) rfl (by kernel_rfl) (by kernel_rfl) (by kernel_rfl) (fun _ _ _ h => h) rfl ?hy23 Hw10 ?rest23
        case hy23 => (intro wx hSx; go_simp; try with_reducible rfl)
        try simp only [Act.put, List.setIfInBounds_toArray, List.set_cons_zero, List.set_cons_succ]
        refine wpAnyH_done (by kernel_rfl) ?_ _
        refine NoPanic.normal ?_
        go_wp2
        go_ret
        exact ⟨rfl, Hw10.old⟩
  · have HG : Hid (¬ (b = true ∧ ¬ 10000 < s.size)) := hgo
    cases b with
    | false =>
      go_wp2_with fail
      refine (awake_any _).mono ?_
      rintro e w2 ⟨rfl, HX⟩
      have HE2 : Hid (Ext w w2) := HE1.out.trans HX
      clear HX
      go_wp2
      go_ret
      exact ⟨rfl, HE2.out⟩
    | true =>
      have h3 : (10000 : Int) < (s.size : Int) := by
        by_cases p : 10000 < s.size
        · omega
        · exact absurd ⟨rfl, p⟩ HG.out
      go_wp2_with fail
      refine (awake_any _).mono ?_
      rintro e w2 ⟨rfl, HX⟩
      have HE2 : Hid (Ext w w2) := HE1.out.trans HX
      clear HX
      go_wp2
      go_ret
      exact ⟨rfl, HE2.out⟩
end Go.Proofs.Ythcnoeddilhpbaa
