/-
  sandglasslaw18.awake, called: true; nothing old is turned.
-/
import Derived.Test.YthcnoeddilhpbaaActs
import Derived.Room.AppendFits
import Derived.Test.YthcnoeddilhpbaaHeld
namespace Go.Proofs.Ythcnoeddilhpbaa
open Go.RowKit
/-- Byte i of the example's row behind m rounds. -/
def exF (m i : Nat) : Nat := if i < m then 97 else 0
theorem exF_put (m : Nat) : put (exF m) m 97 = exF (m + 1) := by
  funext i
  by_cases e : i = m
  · subst e; rw [put_same]; unfold exF; rw [if_pos (by omega)]
  · rw [put_other _ _ e]; unfold exF
    by_cases q : i < m
    · rw [if_pos q, if_pos (by omega)]
    · rw [if_neg q, if_neg (by omega)]
def exA : ByteArray := mkS (exF 100) 100
def exB : ByteArray := mkS (fun i => if i < 64 then 0 else 97) 100
theorem ex_do1 : dDo ⟨#[]⟩ 0 1 exA 0 = (exA, 0, 0) := by
  unfold dDo
  rw [if_pos rfl, if_neg (by decide +kernel)]
  have : (⟨#[]⟩ : ByteArray) ++ exA = exA := by apply ByteArray.ext; decide +kernel
  rw [this]
theorem ex_crash : dcrash exA 2 0 = exB := by
  apply ByteArray.ext
  decide +kernel
theorem ex_do2 : dDo exA 0 3 ⟨#[]⟩ 2 = (exB, 100, 0) := by
  unfold dDo
  rw [if_neg (by decide), if_neg (by decide), if_pos rfl, ex_crash]
  rfl
theorem ex_do3 : dDo exB 100 0 ⟨#[]⟩ 0 = (exB, 100, 1) := rfl
theorem ex_sum : mkS (fun _ => 0) 64 ++ mkS (fun i => exF 100 (64 + i)) 36 = exB := by
  apply ByteArray.ext
  decide +kernel
theorem make_zeros (k : Nat) (hk : k ≤ 64) : ∃ Zc : Array Value, (∀ W : World, (Instr.makeSlice 43 (.int .i64 (k : Int)) (.int .i64 (k : Int))).run Try.prog W = .ok (.slice (some ⟨W.heap.size, 0, none⟩) k k) (W.alloc (.cells Zc 5))) ∧ ∀ W : World, TabN (W.alloc (.cells Zc 5)) W.heap.size .u8 k (fun _ => 0) := by
  obtain ⟨i0, hi, hz0, hz1, hz2⟩ := info_parts Try.info5a
  refine ⟨madeCells #[.int .u8 0] k, fun W => ?_, fun W => ⟨by simp, fun j hj => ⟨?_, World.frozen?_alloc_at _ _ _ _ rfl⟩⟩⟩
  · have := run_make (P := Try.prog) W 43 5 i0 (.int .u8 0) Try.underlying43 hi hz0 .i64 .i64 (k : Int) (k : Int) (by omega) (by omega) (by rw [hz2]; omega) (by omega)
    rw [Int.toNat_natCast, hz1, Nat.mul_one] at this
    exact this
  · rw [World.cell?_alloc_at _ _ _ _ rfl]
    have := lst_get (kd := .u8) (T := fun _ => 0) (n := k) (i := j) hj
    rw [← made_lst'] at this
    simpa using this
theorem TabN.far {w w' : World} {b n : Nat} {kd : IntKind} {T : Nat → Nat} {F : Nat → Prop} (h : TabN w b kd n T) (hc : Chg F w w') (hn : ¬ F b) : TabN w' b kd n T :=
  ⟨Nat.lt_of_lt_of_le h.1 hc.size, fun k hk => ⟨(hc.cell h.1 hn).trans (h.2 k hk).1, (hc.frozen h.1 hn).trans (h.2 k hk).2⟩⟩
theorem TabN.tail {w : World} {b : Nat} {T : Nat → Nat} (h : TabN w b .u8 100 T) : SlIs w (.slice (some ⟨b, 64, none⟩) 36 36) (lst .u8 (fun i => T (64 + i)) 36) :=
  .inr ⟨b, 64, 36, by rw [lst_len], h.1, by rw [lst_len]; decide, fun j x hj => by obtain ⟨hk, rfl⟩ := lst_of hj; exact (h.2 (64 + j) (by omega)).1⟩
/-- What awake's last statement leaves true: the row of bytes, the disk behind the crash. -/
def AwS (w : World) (g : Nat) (da : Addr) (x : ByteArray) (wx : World) : Prop := Ext w wx ∧ TabN wx g .u8 100 (exF 100) ∧ ∃ F, DAt wx (.pointer (some da)) x 100 F ∧ From F w.heap.size ∧ ¬ F g
theorem AwS.ext {w wx wy : World} {g : Nat} {da : Addr} {x : ByteArray} (h : AwS w g da x wx) (hx : Ext wx wy) : AwS w g da x wy := by
  obtain ⟨h1, h2, F, h3, h4, h5⟩ := h
  exact ⟨h1.trans hx, h2.ext hx, F, h3.ext hx, h4, h5⟩
set_option maxHeartbeats 600000 in
theorem awake_any (w : World) : Calls Try.prog 9 #[] w fun e w' => e = .returned (.bool true) ∧ Ext w w' := by
  obtain ⟨i0, hi, hz0, hz1, hz2⟩ := info_parts Try.info5a
  go_enter Try.func9, Try.ntmps9
  go_wp2_with fail
  refine (dnew_any _).mono ?_
  rintro e w1 ⟨v, F, rfl, HD, HF, HX⟩
  have HE1 : Hid (Ext w w1) := HX
  obtain ⟨da, rfl⟩ := HD.form
  have HD1 : Hid (DAt w1 (.pointer (some da)) ⟨#[]⟩ 0 F) := HD
  have HF1 : Hid (From F w.heap.size) := HF
  clear HX HD HF
  go_wp2_with (first | (at_make; refine wpList_make_full _ rfl _ _ 43 rfl w1.heap.size 5 i0 (.int .u8 0) 1 Try.underlying43 hi hz0 hz1 _ _ _ _ 100 rfl rfl ?m1a ?m2a ?m3a ?m4a ?m5a ?_))
  any_goals (first | rfl | decide | exact Nat.le_refl _ | (rw [hz2]; decide))
  intro w2 hown hgrow
  have HT0 : Hid (TabN w2 w1.heap.size .u8 100 (exF 0)) := own_tab (by rw [made_lst'] at hown; exact hown)
  have HX2 : Ext w1 w2 := ext_grown (Ext.refl _) hgrow (by simp)
  have HE2 : Hid (Ext w w2) := HE1.out.trans HX2
  have HD2 : Hid (DAt w2 (.pointer (some da)) ⟨#[]⟩ 0 F) := HD1.out.ext HX2
  have HG : Hid (¬ F w1.heap.size) := fun q => by have := HD1.out.lt _ q; omega
  have HS : SizeLe w w1.heap.size := HE1.out.size
  clear hown hgrow HX2 HE1 HD1
  obtain ⟨g, Hg⟩ : ∃ g, Hid (w1.heap.size = g) := ⟨_, rfl⟩
  rw [Hg.out] at HT0 HG HS ⊢
  go_wp2_with fail
  go_loopw [3] (fun u3 wr => ∃ j : Nat, j ≤ 100 ∧ u3 = .int .i64 j ∧ Hid (TabN wr g .u8 100 (exF j)) ∧ Hid (DAt wr (.pointer (some da)) ⟨#[]⟩ 0 F) ∧ Hid (Ext w wr)) (fun u3 _ => 100 - (intOf u3).toNat)
  case atStart => exact ⟨0, by decide, rfl, HT0, HD2, HE2⟩
  case round =>
    obtain ⟨j, hj, rfl, HT, HD, HE⟩ := hrel
    clear HT0 HD2 HE2
    by_cases hlt : j < 100
    · obtain ⟨q1, q0, qw⟩ := lp_nums j 100 hlt (by decide)
      obtain ⟨gp, gf⟩ := HT.out.2 j hlt
      have hgs := HT.out.1
      have HTn : Hid (TabN (wr.setCell ⟨g, j, none⟩ (.int .u8 97)) g .u8 100 (exF (j + 1))) := by
        show TabN _ _ _ _ _
        rw [← exF_put]
        exact HT.out.set j 97
      have HDn : Hid (DAt (wr.setCell ⟨g, j, none⟩ (.int .u8 97)) (.pointer (some da)) ⟨#[]⟩ 0 F) := HD.out.keep (by simp) (fun k hk => Below.heap_setCell _ _ _ _ (fun q => HG.out (by rw [← show k = g from q]; exact hk)))
      have HEn : Hid (Ext w (wr.setCell ⟨g, j, none⟩ (.int .u8 97))) := Ext.st HS HE.out
      have q2 : (j : Int) < 100 := by omega
      clear HT HD HE
      go_wp2
      go_roundw
      case rel => exact ⟨j + 1, hlt, by push_cast; rfl, HTn, HDn, HEn⟩
      case measure => exact lp_meas hlt
    · obtain rfl : j = 100 := by omega
      have hcs := run_tab_string Try.prog 5 43 9 Try.underlying43 Try.underlying5 Try.underlying9 wr (exF 100) 100 100 g 100 HT.out (Nat.le_refl _)
      rw [show mkS (exF 100) 100 = exA from rfl] at hcs
      have C1 : Hid (∀ W, DAt W (.pointer (some da)) ⟨#[]⟩ 0 F → Calls Try.prog 12 #[.pointer (some da), .agg #[.int .i64 1, .string exA, .int .u64 0]] W fun e w' => ∃ F', e = .returned (.int .i64 0) ∧ DAt w' (.pointer (some da)) exA 0 F' ∧ Sub F' F W ∧ Chg F W w') := fun W h => by
        have := ddo_any 1 exA 0 ⟨by decide +kernel, by decide +kernel⟩ (by decide) W h
        rw [ex_do1] at this
        exact this
      have C2 : Hid (∀ W G, DAt W (.pointer (some da)) exA 0 G → Calls Try.prog 12 #[.pointer (some da), .agg #[.int .i64 3, .string ⟨#[]⟩, .int .u64 2]] W fun e w' => ∃ F', e = .returned (.int .i64 0) ∧ DAt w' (.pointer (some da)) exB 100 F' ∧ Sub F' G W ∧ Chg G W w') := fun W G h => by
        have := ddo_any 3 ⟨#[]⟩ 2 ⟨by decide +kernel, by decide +kernel⟩ (by decide) W h
        rw [ex_do2] at this
        exact this
      have C3 : Hid (∀ W G, DAt W (.pointer (some da)) exB 100 G → Calls Try.prog 12 #[.pointer (some da), .agg #[.int .i64 0, .string ⟨#[]⟩, .int .u64 0]] W fun e w' => ∃ F', e = .returned (.int .i64 1) ∧ DAt w' (.pointer (some da)) exB 100 F' ∧ Sub F' G W ∧ Chg G W w') := fun W G h => by
        have := ddo_any 0 ⟨#[]⟩ 0 ⟨by decide +kernel, by decide +kernel⟩ (by decide) W h
        rw [ex_do3] at this
        exact this
      have HNg : Hid (SizeLe w g) := HS
      go_wp2_with fail
      refine (C1.out _ HD.out).mono ?_
      rintro e w3 ⟨F3, rfl, HD3, HS3, HC3⟩
      have HF3 : Hid (From F3 w.heap.size) := HS3.from HF1.out HE.out.size
      have HG3 : Hid (¬ F3 g) := fun q => by rcases HS3 g q with p | p; exact HG.out p; have := HT.out.1; omega
      have HT3 : Hid (TabN w3 g .u8 100 (exF 100)) := HT.out.far HC3 HG.out
      have HE3 : Hid (Ext w w3) := HC3.ext HE.out HF1.out
      have HDD3 : Hid (DAt w3 (.pointer (some da)) exA 0 F3) := HD3
      clear HD3 HS3 HC3 HT HE HD HF1 HG hcs
      go_wp2_with fail
      refine (C2.out _ _ HDD3.out).mono ?_
      rintro e w4 ⟨F4, rfl, HD4, HS4, HC4⟩
      have HF4 : Hid (From F4 w.heap.size) := HS4.from HF3.out HE3.out.size
      have HG4 : Hid (¬ F4 g) := fun q => by rcases HS4 g q with p | p; exact HG3.out p; have := HT3.out.1; omega
      have HT4 : Hid (TabN w4 g .u8 100 (exF 100)) := HT3.out.far HC4 HG3.out
      have HE4 : Hid (Ext w w4) := HC4.ext HE3.out HF3.out
      have HDD4 : Hid (DAt w4 (.pointer (some da)) exB 100 F4) := HD4
      clear HD4 HS4 HC4 HT3 HE3 HDD3 HF3 HG3 C1 C2
      obtain ⟨Zc, hmk, hZ1⟩ := make_zeros 64 (by decide)
      have hcv : ∀ (g : Nat) (wx : World), TabN wx g .u8 64 (fun _ => 0) → Sem.run Try.prog (convert 43 9 (.slice (some ⟨g, 0, none⟩) 64 64)) wx = .ok (.string (mkS (fun _ => 0) 64)) wx := fun g wx hx => run_tab_string Try.prog 5 43 9 Try.underlying43 Try.underlying5 Try.underlying9 wx _ 64 64 g 64 hx (Nat.le_refl _)
      have hcw : ∀ (wx : World), AwS w g da exB wx → Sem.run Try.prog (convert 43 9 (.slice (some ⟨g, 64, none⟩) 36 36)) wx = .ok (.string (mkS (fun i => exF 100 (64 + i)) 36)) wx := fun wx hx => run_lst_string Try.prog 5 43 9 Try.underlying43 Try.underlying5 Try.underlying9 wx _ 36 _ hx.2.1.tail (by decide)
      have HSm : Hid (mkS (fun _ => 0) 64 ++ mkS (fun i => exF 100 (64 + i)) 36 = exB) := ex_sum
      have hq1 : (mkS (fun _ => 0) 64).size = 64 := mkS_len _ _
      have hq2 : (mkS (fun i => exF 100 (64 + i)) 36).size = 36 := mkS_len _ _
      generalize mkS (fun _ => 0) 64 = Z at *
      generalize mkS (fun i => exF 100 (64 + i)) 36 = Y at *
      have hq3 : ¬ 9223372036854775807 < Z.size + Y.size := by rw [hq1, hq2]; decide
      have HS4 : AwS w g da exB w4 := ⟨HE4.out, HT4.out, F4, HDD4.out, HF4.out, HG4.out⟩
      have HDo : Hid (∀ W, AwS w g da exB W → Calls Try.prog 12 #[.pointer (some da), .agg #[.int .i64 0, .string ⟨#[]⟩, .int .u64 0]] W fun e w' => e = .returned (.int .i64 1) ∧ AwS w g da exB w') := fun W h => by
        obtain ⟨h1, h2, G, h3, h4, h5⟩ := h
        refine (C3.out W G h3).mono ?_
        rintro e w' ⟨F', rfl, HD9, HS9, HC9⟩
        exact ⟨rfl, HC9.ext h1 h4, h2.far HC9 h5, F', HD9, HS9.from h4 h1.size, fun q => by rcases HS9 g q with p | p; exact h5 p; have := h2.1; omega⟩
      have HTx : Hid (∀ W, AwS w g da exB W → Calls Try.prog 13 #[.pointer (some da)] W fun e w' => e = .returned (.string exB) ∧ Ext W w') := fun W h => by
        obtain ⟨h1, h2, G, h3, h4, h5⟩ := h
        exact dtext_any W h3
      have HSy : Hid (∀ W, AwS w g da exB W → Calls Try.prog 14 #[.pointer (some da)] W fun e w' => e = .returned (.int .i64 100) ∧ Ext W w') := fun W h => by
        obtain ⟨h1, h2, G, h3, h4, h5⟩ := h
        exact dsynced_any W h3
      have hbe : ((exB).toList == (Z ++ Y).toList) = true := by rw [HSm.out]; exact beq_self_eq_true _
      generalize exB = R at *
      clear HDD4 hq1 hq2 HE4 HT4 HF4 HG4 C3 HS HNg HSm
      go_wp2_with fail
      refine wp_region_noPanic ?_
      refine wp_region_held (S := AwS w g da R) (by kernel_rfl) ?_
      rw [show ({ w4 with drawn := w4.drawn + 1 } : World) = w4.drew from rfl]
      replace HS4 : AwS w g da R w4.drew := HS4.ext (Ext.refl _).drew
      generalize w4.drew = W4 at *
      refine held_take (i := 0) (v := ?v0) rfl (by kernel_rfl) (by kernel_rfl) (by kernel_rfl) (fun _ _ _ h => h) rfl ?hy0 HS4 ?rest0
      case hy0 => (intro wx hSx; go_simp; try with_reducible rfl)
      try simp only [Act.put, List.setIfInBounds_toArray, List.set_cons_zero, List.set_cons_succ]
      refine held_take (i := 1) (v := ?v1) rfl (by kernel_rfl) (by kernel_rfl) (by kernel_rfl) (fun _ _ _ h => h) rfl ?hy1 HS4 ?rest1
      case hy1 => (intro wx hSx; go_simp; try with_reducible rfl)
      try simp only [Act.put, List.setIfInBounds_toArray, List.set_cons_zero, List.set_cons_succ]
      refine held_take (i := 2) (v := ?v2) rfl (by kernel_rfl) (by kernel_rfl) (by kernel_rfl) (fun _ _ _ h => h) rfl ?hy2 HS4 ?rest2
      case hy2 => (intro wx hSx; go_simp; try with_reducible rfl)
      try simp only [Act.put, List.setIfInBounds_toArray, List.set_cons_zero, List.set_cons_succ]
      refine held_take (i := 3) (v := ?v3) rfl (by kernel_rfl) (by kernel_rfl) (by kernel_rfl) (fun _ _ _ h => h) rfl ?hy3 HS4 ?rest3
      case hy3 => (intro wx hSx; go_simp; try with_reducible rfl)
      try simp only [Act.put, List.setIfInBounds_toArray, List.set_cons_zero, List.set_cons_succ]
      refine held_take (i := 4) (v := ?v4) rfl (by kernel_rfl) (by kernel_rfl) (by kernel_rfl) (fun _ _ _ h => h) rfl ?hy4 HS4 ?rest4
      case hy4 => (intro wx hSx; go_simp; try with_reducible rfl)
      try simp only [Act.put, List.setIfInBounds_toArray, List.set_cons_zero, List.set_cons_succ]
      refine held_take (i := 5) (v := ?v5) rfl (by kernel_rfl) (by kernel_rfl) (by kernel_rfl) (fun _ _ _ h => h) rfl ?hy5 HS4 ?rest5
      case hy5 => (intro wx hSx; go_simp; try with_reducible rfl)
      try simp only [Act.put, List.setIfInBounds_toArray, List.set_cons_zero, List.set_cons_succ]
      refine held_take (i := 6) (v := ?v6) rfl (by kernel_rfl) (by kernel_rfl) (by kernel_rfl) (fun _ _ _ h => h) rfl ?hy6 HS4 ?rest6
      case hy6 => (intro wx hSx; go_simp; try with_reducible rfl)
      try simp only [Act.put, List.setIfInBounds_toArray, List.set_cons_zero, List.set_cons_succ]
      refine held_take (i := 7) (v := ?v7) rfl (by kernel_rfl) (by kernel_rfl) (by kernel_rfl) (fun _ _ _ h => h) rfl ?hy7 HS4 ?rest7
      case hy7 => (intro wx hSx; go_simp; try with_reducible rfl)
      try simp only [Act.put, List.setIfInBounds_toArray, List.set_cons_zero, List.set_cons_succ]
      refine held_take (i := 11) (v := ?v11) rfl (by kernel_rfl) (by kernel_rfl) (by kernel_rfl) (fun _ _ _ h => h) rfl ?hy11 HS4 ?rest11
      case hy11 => (intro wx hSx; go_simp; try with_reducible rfl)
      try simp only [Act.put, List.setIfInBounds_toArray, List.set_cons_zero, List.set_cons_succ]
      refine held_take (i := 12) (v := ?v12) rfl (by kernel_rfl) (by kernel_rfl) (by kernel_rfl) (fun _ _ _ h => h) rfl ?hy12 HS4 ?rest12
      case hy12 => (intro wx hSx; go_simp; try with_reducible rfl)
      try simp only [Act.put, List.setIfInBounds_toArray, List.set_cons_zero, List.set_cons_succ]
      refine held_take (i := 13) (v := ?v13) rfl (by kernel_rfl) (by kernel_rfl) (by kernel_rfl) (fun _ _ _ h => h) rfl ?hy13 HS4 ?rest13
      case hy13 => (intro wx hSx; have hz := hcw wx hSx; go_simp; try with_reducible rfl)
      try simp only [Act.put, List.setIfInBounds_toArray, List.set_cons_zero, List.set_cons_succ]
      refine held_two (i := 8) (k := 9) (by kernel_rfl) rfl rfl rfl rfl (fun K hK => ?_) (fun K hK => ?_)
      · try go_simp
        refine (HTx.out _ HS4).mono ?_
        rintro e w5 ⟨rfl, HX⟩
        have HS5 := HS4.ext HX
        clear HX
        try go_simp
        refine hK.out _ _ ⟨HS5, ?_⟩
        clear hK K
        try simp only [Act.put, List.setIfInBounds_toArray, List.set_cons_zero, List.set_cons_succ]
        refine held_one (i := 9) (by kernel_rfl) rfl rfl (fun K hK => ?_)
        have hmk6 : Sem.run Try.prog (Instr.makeSlice 43 (.int .i64 64) (.int .i64 64)) w5 = .ok (.slice (some ⟨w5.heap.size, 0, none⟩) 64 64) (w5.alloc (.cells Zc 5)) := hmk w5
        try go_simp
        try rw [hmk6]
        have HS6 := HS5.ext ((Ext.refl w5).alloc (.cells Zc 5))
        have HZ6 := hZ1 w5
        generalize w5.heap.size = gz at *
        generalize w5.alloc (.cells Zc 5) = w6 at *
        clear hmk6
        try go_simp
        refine hK.out _ _ ⟨HS6, ?_⟩
        clear hK K
        try simp only [Act.put, List.setIfInBounds_toArray, List.set_cons_zero, List.set_cons_succ]
        refine held_one (i := 10) (by kernel_rfl) rfl rfl (fun K hK => ?_)
        have hcz := hcv gz w6 HZ6
        try go_simp
        try rw [hcz]
        try go_simp
        refine hK.out _ _ ⟨HS6, ?_⟩
        clear hK K hcz
        try simp only [Act.put, List.setIfInBounds_toArray, List.set_cons_zero, List.set_cons_succ]
        refine held_take (i := 14) (v := ?va14) rfl (by kernel_rfl) (by kernel_rfl) (by kernel_rfl) (fun _ _ _ h => h) rfl ?hya14 HS6 ?resta14
        case hya14 => (intro wx hSx; go_simp; try with_reducible rfl)
        try simp only [Act.put, List.setIfInBounds_toArray, List.set_cons_zero, List.set_cons_succ]
        refine held_take (i := 15) (v := ?va15) rfl (by kernel_rfl) (by kernel_rfl) (by kernel_rfl) (fun _ _ _ h => h) rfl ?hya15 HS6 ?resta15
        case hya15 => (intro wx hSx; go_simp; try with_reducible rfl)
        try simp only [Act.put, List.setIfInBounds_toArray, List.set_cons_zero, List.set_cons_succ]
        try rw [hbe]
        refine held_take (i := 16) (v := ?va16) rfl (by kernel_rfl) (by kernel_rfl) (by kernel_rfl) (fun _ _ _ h => h) rfl ?hya16 HS6 ?resta16
        case hya16 => (intro wx hSx; go_simp; try with_reducible rfl)
        try simp only [Act.put, List.setIfInBounds_toArray, List.set_cons_zero, List.set_cons_succ]
        refine held_take (i := 17) (v := ?va17) rfl (by kernel_rfl) (by kernel_rfl) (by kernel_rfl) (fun _ _ _ h => h) rfl ?hya17 HS6 ?resta17
        case hya17 => (intro wx hSx; go_simp; try with_reducible rfl)
        try simp only [Act.put, List.setIfInBounds_toArray, List.set_cons_zero, List.set_cons_succ]
        refine held_take (i := 18) (v := ?va18) rfl (by kernel_rfl) (by kernel_rfl) (by kernel_rfl) (fun _ _ _ h => h) rfl ?hya18 HS6 ?resta18
        case hya18 => (intro wx hSx; go_simp; try with_reducible rfl)
        try simp only [Act.put, List.setIfInBounds_toArray, List.set_cons_zero, List.set_cons_succ]
        refine held_one (i := 19) (by kernel_rfl) rfl rfl (fun K hK => ?_)
        try go_simp
        refine (HSy.out _ HS6).mono ?_
        rintro e w7 ⟨rfl, HX⟩
        have HS7 := HS6.ext HX
        clear HX
        try go_simp
        refine hK.out _ _ ⟨HS7, ?_⟩
        clear hK K
        try simp only [Act.put, List.setIfInBounds_toArray, List.set_cons_zero, List.set_cons_succ]
        refine held_take (i := 20) (v := ?va20) rfl (by kernel_rfl) (by kernel_rfl) (by kernel_rfl) (fun _ _ _ h => h) rfl ?hya20 HS7 ?resta20
        case hya20 => (intro wx hSx; go_simp; try with_reducible rfl)
        try simp only [Act.put, List.setIfInBounds_toArray, List.set_cons_zero, List.set_cons_succ]
        refine held_take (i := 21) (v := ?va21) rfl (by kernel_rfl) (by kernel_rfl) (by kernel_rfl) (fun _ _ _ h => h) rfl ?hya21 HS7 ?resta21
        case hya21 => (intro wx hSx; go_simp; try with_reducible rfl)
        try simp only [Act.put, List.setIfInBounds_toArray, List.set_cons_zero, List.set_cons_succ]
        refine held_take (i := 22) (v := ?va22) rfl (by kernel_rfl) (by kernel_rfl) (by kernel_rfl) (fun _ _ _ h => h) rfl ?hya22 HS7 ?resta22
        case hya22 => (intro wx hSx; go_simp; try with_reducible rfl)
        try simp only [Act.put, List.setIfInBounds_toArray, List.set_cons_zero, List.set_cons_succ]
        refine held_take (i := 23) (v := ?va23) rfl (by kernel_rfl) (by kernel_rfl) (by kernel_rfl) (fun _ _ _ h => h) rfl ?hya23 HS7 ?resta23
        case hya23 => (intro wx hSx; go_simp; try with_reducible rfl)
        try simp only [Act.put, List.setIfInBounds_toArray, List.set_cons_zero, List.set_cons_succ]
        refine held_take (i := 24) (v := ?va24) rfl (by kernel_rfl) (by kernel_rfl) (by kernel_rfl) (fun _ _ _ h => h) rfl ?hya24 HS7 ?resta24
        case hya24 => (intro wx hSx; go_simp; try with_reducible rfl)
        try simp only [Act.put, List.setIfInBounds_toArray, List.set_cons_zero, List.set_cons_succ]
        refine held_one (i := 25) (by kernel_rfl) rfl rfl (fun K hK => ?_)
        go_simp
        refine (HDo.out _ HS7).mono ?_
        rintro e w8 ⟨rfl, HS8⟩
        try go_simp
        refine hK.out _ _ ⟨HS8, ?_⟩
        clear hK K
        try simp only [Act.put, List.setIfInBounds_toArray, List.set_cons_zero, List.set_cons_succ]
        refine held_take (i := 26) (v := ?va26) rfl (by kernel_rfl) (by kernel_rfl) (by kernel_rfl) (fun _ _ _ h => h) rfl ?hya26 HS8 ?resta26
        case hya26 => (intro wx hSx; go_simp; try with_reducible rfl)
        try simp only [Act.put, List.setIfInBounds_toArray, List.set_cons_zero, List.set_cons_succ]
        refine held_take (i := 27) (v := ?va27) rfl (by kernel_rfl) (by kernel_rfl) (by kernel_rfl) (fun _ _ _ h => h) rfl ?hya27 HS8 ?resta27
        case hya27 => (intro wx hSx; go_simp; try with_reducible rfl)
        try simp only [Act.put, List.setIfInBounds_toArray, List.set_cons_zero, List.set_cons_succ]
        refine held_take (i := 28) (v := ?va28) rfl (by kernel_rfl) (by kernel_rfl) (by kernel_rfl) (fun _ _ _ h => h) rfl ?hya28 HS8 ?resta28
        case hya28 => (intro wx hSx; go_simp; try with_reducible rfl)
        try simp only [Act.put, List.setIfInBounds_toArray, List.set_cons_zero]
        refine wpAnyH_done (by kernel_rfl) ?_ _
        refine NoPanic.normal ?_
        go_wp2
        go_ret
        exact ⟨rfl, HS8.1⟩
      · have hmk5 : Sem.run Try.prog (Instr.makeSlice 43 (.int .i64 64) (.int .i64 64)) W4 = .ok (.slice (some ⟨W4.heap.size, 0, none⟩) 64 64) (W4.alloc (.cells Zc 5)) := hmk W4
        try go_simp
        try rw [hmk5]
        have HS5 := HS4.ext ((Ext.refl W4).alloc (.cells Zc 5))
        have HZ5 := hZ1 W4
        generalize W4.heap.size = gz at *
        generalize W4.alloc (.cells Zc 5) = w5 at *
        clear hmk5
        try go_simp
        refine hK.out _ _ ⟨HS5, ?_⟩
        clear hK K
        try simp only [Act.put, List.setIfInBounds_toArray, List.set_cons_zero, List.set_cons_succ]
        refine held_two (i := 8) (k := 10) (by kernel_rfl) rfl rfl rfl rfl (fun K hK => ?_) (fun K hK => ?_)
        · try go_simp
          refine (HTx.out _ HS5).mono ?_
          rintro e w6 ⟨rfl, HX⟩
          have HS6 := HS5.ext HX
          have HZ6 := HZ5.ext HX
          clear HX
          try go_simp
          refine hK.out _ _ ⟨HS6, ?_⟩
          clear hK K
          try simp only [Act.put, List.setIfInBounds_toArray, List.set_cons_zero, List.set_cons_succ]
          refine held_one (i := 10) (by kernel_rfl) rfl rfl (fun K hK => ?_)
          have hcz := hcv gz w6 HZ6
          try go_simp
          try rw [hcz]
          try go_simp
          refine hK.out _ _ ⟨HS6, ?_⟩
          clear hK K hcz
          try simp only [Act.put, List.setIfInBounds_toArray, List.set_cons_zero, List.set_cons_succ]
          refine held_take (i := 14) (v := ?vb14) rfl (by kernel_rfl) (by kernel_rfl) (by kernel_rfl) (fun _ _ _ h => h) rfl ?hyb14 HS6 ?restb14
          case hyb14 => (intro wx hSx; go_simp; try with_reducible rfl)
          try simp only [Act.put, List.setIfInBounds_toArray, List.set_cons_zero, List.set_cons_succ]
          refine held_take (i := 15) (v := ?vb15) rfl (by kernel_rfl) (by kernel_rfl) (by kernel_rfl) (fun _ _ _ h => h) rfl ?hyb15 HS6 ?restb15
          case hyb15 => (intro wx hSx; go_simp; try with_reducible rfl)
          try simp only [Act.put, List.setIfInBounds_toArray, List.set_cons_zero, List.set_cons_succ]
          try rw [hbe]
          refine held_take (i := 16) (v := ?vb16) rfl (by kernel_rfl) (by kernel_rfl) (by kernel_rfl) (fun _ _ _ h => h) rfl ?hyb16 HS6 ?restb16
          case hyb16 => (intro wx hSx; go_simp; try with_reducible rfl)
          try simp only [Act.put, List.setIfInBounds_toArray, List.set_cons_zero, List.set_cons_succ]
          refine held_take (i := 17) (v := ?vb17) rfl (by kernel_rfl) (by kernel_rfl) (by kernel_rfl) (fun _ _ _ h => h) rfl ?hyb17 HS6 ?restb17
          case hyb17 => (intro wx hSx; go_simp; try with_reducible rfl)
          try simp only [Act.put, List.setIfInBounds_toArray, List.set_cons_zero, List.set_cons_succ]
          refine held_take (i := 18) (v := ?vb18) rfl (by kernel_rfl) (by kernel_rfl) (by kernel_rfl) (fun _ _ _ h => h) rfl ?hyb18 HS6 ?restb18
          case hyb18 => (intro wx hSx; go_simp; try with_reducible rfl)
          try simp only [Act.put, List.setIfInBounds_toArray, List.set_cons_zero, List.set_cons_succ]
          refine held_one (i := 19) (by kernel_rfl) rfl rfl (fun K hK => ?_)
          try go_simp
          refine (HSy.out _ HS6).mono ?_
          rintro e w7 ⟨rfl, HX⟩
          have HS7 := HS6.ext HX
          clear HX
          try go_simp
          refine hK.out _ _ ⟨HS7, ?_⟩
          clear hK K
          try simp only [Act.put, List.setIfInBounds_toArray, List.set_cons_zero, List.set_cons_succ]
          refine held_take (i := 20) (v := ?vb20) rfl (by kernel_rfl) (by kernel_rfl) (by kernel_rfl) (fun _ _ _ h => h) rfl ?hyb20 HS7 ?restb20
          case hyb20 => (intro wx hSx; go_simp; try with_reducible rfl)
          try simp only [Act.put, List.setIfInBounds_toArray, List.set_cons_zero, List.set_cons_succ]
          refine held_take (i := 21) (v := ?vb21) rfl (by kernel_rfl) (by kernel_rfl) (by kernel_rfl) (fun _ _ _ h => h) rfl ?hyb21 HS7 ?restb21
          case hyb21 => (intro wx hSx; go_simp; try with_reducible rfl)
          try simp only [Act.put, List.setIfInBounds_toArray, List.set_cons_zero, List.set_cons_succ]
          refine held_take (i := 22) (v := ?vb22) rfl (by kernel_rfl) (by kernel_rfl) (by kernel_rfl) (fun _ _ _ h => h) rfl ?hyb22 HS7 ?restb22
          case hyb22 => (intro wx hSx; go_simp; try with_reducible rfl)
          try simp only [Act.put, List.setIfInBounds_toArray, List.set_cons_zero, List.set_cons_succ]
          refine held_take (i := 23) (v := ?vb23) rfl (by kernel_rfl) (by kernel_rfl) (by kernel_rfl) (fun _ _ _ h => h) rfl ?hyb23 HS7 ?restb23
          case hyb23 => (intro wx hSx; go_simp; try with_reducible rfl)
          try simp only [Act.put, List.setIfInBounds_toArray, List.set_cons_zero, List.set_cons_succ]
          refine held_take (i := 24) (v := ?vb24) rfl (by kernel_rfl) (by kernel_rfl) (by kernel_rfl) (fun _ _ _ h => h) rfl ?hyb24 HS7 ?restb24
          case hyb24 => (intro wx hSx; go_simp; try with_reducible rfl)
          try simp only [Act.put, List.setIfInBounds_toArray, List.set_cons_zero, List.set_cons_succ]
          refine held_one (i := 25) (by kernel_rfl) rfl rfl (fun K hK => ?_)
          go_simp
          refine (HDo.out _ HS7).mono ?_
          rintro e w8 ⟨rfl, HS8⟩
          try go_simp
          refine hK.out _ _ ⟨HS8, ?_⟩
          clear hK K
          try simp only [Act.put, List.setIfInBounds_toArray, List.set_cons_zero, List.set_cons_succ]
          refine held_take (i := 26) (v := ?vb26) rfl (by kernel_rfl) (by kernel_rfl) (by kernel_rfl) (fun _ _ _ h => h) rfl ?hyb26 HS8 ?restb26
          case hyb26 => (intro wx hSx; go_simp; try with_reducible rfl)
          try simp only [Act.put, List.setIfInBounds_toArray, List.set_cons_zero, List.set_cons_succ]
          refine held_take (i := 27) (v := ?vb27) rfl (by kernel_rfl) (by kernel_rfl) (by kernel_rfl) (fun _ _ _ h => h) rfl ?hyb27 HS8 ?restb27
          case hyb27 => (intro wx hSx; go_simp; try with_reducible rfl)
          try simp only [Act.put, List.setIfInBounds_toArray, List.set_cons_zero, List.set_cons_succ]
          refine held_take (i := 28) (v := ?vb28) rfl (by kernel_rfl) (by kernel_rfl) (by kernel_rfl) (fun _ _ _ h => h) rfl ?hyb28 HS8 ?restb28
          case hyb28 => (intro wx hSx; go_simp; try with_reducible rfl)
          try simp only [Act.put, List.setIfInBounds_toArray, List.set_cons_zero]
          refine wpAnyH_done (by kernel_rfl) ?_ _
          refine NoPanic.normal ?_
          go_wp2
          go_ret
          exact ⟨rfl, HS8.1⟩
        · have hcz := hcv gz w5 HZ5
          try go_simp
          try rw [hcz]
          try go_simp
          refine hK.out _ _ ⟨HS5, ?_⟩
          clear hK K hcz
          try simp only [Act.put, List.setIfInBounds_toArray, List.set_cons_zero, List.set_cons_succ]
          refine held_take (i := 14) (v := ?vc14) rfl (by kernel_rfl) (by kernel_rfl) (by kernel_rfl) (fun _ _ _ h => h) rfl ?hyc14 HS5 ?restc14
          case hyc14 => (intro wx hSx; go_simp; try with_reducible rfl)
          try simp only [Act.put, List.setIfInBounds_toArray, List.set_cons_zero, List.set_cons_succ]
          refine held_one (i := 8) (by kernel_rfl) rfl rfl (fun K hK => ?_)
          try go_simp
          refine (HTx.out _ HS5).mono ?_
          rintro e w6 ⟨rfl, HX⟩
          have HS6 := HS5.ext HX
          clear HX
          try go_simp
          refine hK.out _ _ ⟨HS6, ?_⟩
          clear hK K
          try simp only [Act.put, List.setIfInBounds_toArray, List.set_cons_zero, List.set_cons_succ]
          refine held_take (i := 15) (v := ?vc15) rfl (by kernel_rfl) (by kernel_rfl) (by kernel_rfl) (fun _ _ _ h => h) rfl ?hyc15 HS6 ?restc15
          case hyc15 => (intro wx hSx; go_simp; try with_reducible rfl)
          try simp only [Act.put, List.setIfInBounds_toArray, List.set_cons_zero, List.set_cons_succ]
          try rw [hbe]
          refine held_take (i := 16) (v := ?vc16) rfl (by kernel_rfl) (by kernel_rfl) (by kernel_rfl) (fun _ _ _ h => h) rfl ?hyc16 HS6 ?restc16
          case hyc16 => (intro wx hSx; go_simp; try with_reducible rfl)
          try simp only [Act.put, List.setIfInBounds_toArray, List.set_cons_zero, List.set_cons_succ]
          refine held_take (i := 17) (v := ?vc17) rfl (by kernel_rfl) (by kernel_rfl) (by kernel_rfl) (fun _ _ _ h => h) rfl ?hyc17 HS6 ?restc17
          case hyc17 => (intro wx hSx; go_simp; try with_reducible rfl)
          try simp only [Act.put, List.setIfInBounds_toArray, List.set_cons_zero, List.set_cons_succ]
          refine held_take (i := 18) (v := ?vc18) rfl (by kernel_rfl) (by kernel_rfl) (by kernel_rfl) (fun _ _ _ h => h) rfl ?hyc18 HS6 ?restc18
          case hyc18 => (intro wx hSx; go_simp; try with_reducible rfl)
          try simp only [Act.put, List.setIfInBounds_toArray, List.set_cons_zero, List.set_cons_succ]
          refine held_one (i := 19) (by kernel_rfl) rfl rfl (fun K hK => ?_)
          try go_simp
          refine (HSy.out _ HS6).mono ?_
          rintro e w7 ⟨rfl, HX⟩
          have HS7 := HS6.ext HX
          clear HX
          try go_simp
          refine hK.out _ _ ⟨HS7, ?_⟩
          clear hK K
          try simp only [Act.put, List.setIfInBounds_toArray, List.set_cons_zero, List.set_cons_succ]
          refine held_take (i := 20) (v := ?vc20) rfl (by kernel_rfl) (by kernel_rfl) (by kernel_rfl) (fun _ _ _ h => h) rfl ?hyc20 HS7 ?restc20
          case hyc20 => (intro wx hSx; go_simp; try with_reducible rfl)
          try simp only [Act.put, List.setIfInBounds_toArray, List.set_cons_zero, List.set_cons_succ]
          refine held_take (i := 21) (v := ?vc21) rfl (by kernel_rfl) (by kernel_rfl) (by kernel_rfl) (fun _ _ _ h => h) rfl ?hyc21 HS7 ?restc21
          case hyc21 => (intro wx hSx; go_simp; try with_reducible rfl)
          try simp only [Act.put, List.setIfInBounds_toArray, List.set_cons_zero, List.set_cons_succ]
          refine held_take (i := 22) (v := ?vc22) rfl (by kernel_rfl) (by kernel_rfl) (by kernel_rfl) (fun _ _ _ h => h) rfl ?hyc22 HS7 ?restc22
          case hyc22 => (intro wx hSx; go_simp; try with_reducible rfl)
          try simp only [Act.put, List.setIfInBounds_toArray, List.set_cons_zero, List.set_cons_succ]
          refine held_take (i := 23) (v := ?vc23) rfl (by kernel_rfl) (by kernel_rfl) (by kernel_rfl) (fun _ _ _ h => h) rfl ?hyc23 HS7 ?restc23
          case hyc23 => (intro wx hSx; go_simp; try with_reducible rfl)
          try simp only [Act.put, List.setIfInBounds_toArray, List.set_cons_zero, List.set_cons_succ]
          refine held_take (i := 24) (v := ?vc24) rfl (by kernel_rfl) (by kernel_rfl) (by kernel_rfl) (fun _ _ _ h => h) rfl ?hyc24 HS7 ?restc24
          case hyc24 => (intro wx hSx; go_simp; try with_reducible rfl)
          try simp only [Act.put, List.setIfInBounds_toArray, List.set_cons_zero, List.set_cons_succ]
          refine held_one (i := 25) (by kernel_rfl) rfl rfl (fun K hK => ?_)
          go_simp
          refine (HDo.out _ HS7).mono ?_
          rintro e w8 ⟨rfl, HS8⟩
          try go_simp
          refine hK.out _ _ ⟨HS8, ?_⟩
          clear hK K
          try simp only [Act.put, List.setIfInBounds_toArray, List.set_cons_zero, List.set_cons_succ]
          refine held_take (i := 26) (v := ?vc26) rfl (by kernel_rfl) (by kernel_rfl) (by kernel_rfl) (fun _ _ _ h => h) rfl ?hyc26 HS8 ?restc26
          case hyc26 => (intro wx hSx; go_simp; try with_reducible rfl)
          try simp only [Act.put, List.setIfInBounds_toArray, List.set_cons_zero, List.set_cons_succ]
          refine held_take (i := 27) (v := ?vc27) rfl (by kernel_rfl) (by kernel_rfl) (by kernel_rfl) (fun _ _ _ h => h) rfl ?hyc27 HS8 ?restc27
          case hyc27 => (intro wx hSx; go_simp; try with_reducible rfl)
          try simp only [Act.put, List.setIfInBounds_toArray, List.set_cons_zero, List.set_cons_succ]
          refine held_take (i := 28) (v := ?vc28) rfl (by kernel_rfl) (by kernel_rfl) (by kernel_rfl) (fun _ _ _ h => h) rfl ?hyc28 HS8 ?restc28
          case hyc28 => (intro wx hSx; go_simp; try with_reducible rfl)
          try simp only [Act.put, List.setIfInBounds_toArray, List.set_cons_zero]
          refine wpAnyH_done (by kernel_rfl) ?_ _
          refine NoPanic.normal ?_
          go_wp2
          go_ret
          exact ⟨rfl, HS8.1⟩
end Go.Proofs.Ythcnoeddilhpbaa
