/-
  WalPlays, called: true; nothing old is turned.
-/
import Derived.Test.YtbkdjpialjbhnaaLLaws2
namespace Go.Proofs.Ytbkdjpialjbhnaa
open Go.RowKit
set_option maxHeartbeats 4000000 in
theorem walPlays_any (v : Value) (n : Nat) (k : Nat → Int) (x : Nat → ByteArray) (K : Nat → Nat) (hKs : ∀ i, i < n → K i < 18446744073709551616) (w : World) (hL : ActsIs w v n k x K) :
    Calls Try.prog 3 #[v] w fun e w' => e = .returned (.bool true) ∧ Ext w w' := by
  have HL : Hid (ActsIs w v n k x K) := hL
  obtain ⟨a, cap, rfl, _⟩ := hL
  have HK : Hid (∀ i, i < n → K i < 18446744073709551616) := hKs
  have HF : Hid (Calls Try.prog 8 #[.slice a n cap] w fun e w' => FewP x n w e w') := few_any _ n k x K w HL.out
  clear hKs
  go_enter Try.func3, Try.ntmps3
  go_wp2_with fail
  refine HF.out.mono ?_
  rintro e w1 ⟨b, rfl, hb, HX⟩
  have HE1 : Hid (Ext w w1) := HX
  clear HX HF
  cases b with
  | false =>
    go_wp2_with fail
    refine (awake_any _).mono ?_
    rintro e w2 ⟨rfl, HX⟩
    have HE2 : Hid (Ext w w2) := HE1.out.trans HX
    clear HX
    go_wp2
    go_ret
    exact ⟨rfl, HE2.out⟩
  | true =>
    have Hn : Hid (n ≤ 40) := (hb rfl).1
    clear hb
    go_wp2_with fail
    refine (unew_any w w1 HE1.out).mono ?_
    rintro e w2 ⟨da, rfl, HP⟩
    have HPx : Hid (∃ (a' : Option Addr) (c' : Nat), PlV w (.pointer (some da)) w2.heap.size (wPl k x K 0).1 (wPl k x K 0).2 (.slice a' (wPl k x K 0).1.length c') (wPl k x K 0).1 (wPl k x K 0).2 (w2.alloc (.cells #[.string ⟨#[]⟩, .int .i64 0, .slice none 0 0, .int .i64 0] 31))) := ⟨none, 0, PlV.new HP 31 rfl rfl rfl⟩
    clear HP HE1
    go_wp2_with fail
    generalize w2.alloc (.cells #[.string ⟨#[]⟩, .int .i64 0, .slice none 0 0, .int .i64 0] 31) = w3 at *
    generalize w2.heap.size = g at *
    go_loopw [5] (fun u5 wr => ∃ j : Nat, j ≤ n ∧ u5 = .int .i64 j ∧ Hid (∃ (a' : Option Addr) (c' : Nat), PlV w (.pointer (some da)) g (wPl k x K j).1 (wPl k x K j).2 (.slice a' (wPl k x K j).1.length c') (wPl k x K j).1 (wPl k x K j).2 wr)) (fun u5 _ => n - (intOf u5).toNat)
    case atStart => exact ⟨0, Nat.zero_le _, rfl, HPx⟩
    case round =>
      obtain ⟨j, hj, rfl, HPq⟩ := hrel
      clear HPx
      by_cases hlt : j < n
      · obtain ⟨q1, q0, qw⟩ := lp_nums j n hlt (by have := Hn.out; omega)
        have HOk : Hid (wOk (wPl k x K j).1 (wPl k x K j).2) := wPl_ok k x K j
        have HKj : Hid (K j < 18446744073709551616) := HK.out j hlt
        obtain ⟨ua, uc, HPr⟩ := HPq.out
        clear HPq
        by_cases hk1 : k j = 1
        · have HNx : Hid (wPl k x K (j + 1) = ((wPl k x K j).1, (wPl k x K j).1.length)) := wPl_sync hk1
          generalize (wPl k x K j).1 = l at *
          generalize (wPl k x K j).2 = y at *
          obtain ⟨ga, off, rfl, hbl, hd0, hd1, hd2⟩ := (HL.out.ext HPr.old).get hlt
          have HP : Hid (PlV w (.pointer (some da)) g l y (.slice ua l.length uc) l y wr) := HPr
          have HOk2 : Hid (wOk l l.length) := HOk.out.all
          clear HPr
          go_wp2_with fail
          refine (vsync_any HOk.out HP.out).mono ?_
          rintro e w4 ⟨rfl, HPy⟩
          have HP4 : Hid (PlV w (.pointer (some da)) g l l.length (.slice ua l.length uc) l y w4) := HPy
          obtain ⟨b0, b1, b2, b3, b4, b5, b6, b7, b8⟩ := HPy.blk
          clear HPy HP hd0 hd1 hd2 hbl
          go_wp2_with fail
          refine (rwsync_any (lg l) (wy l y) ua l.length uc y HOk.out.disk w4).mono ?_
          rintro e w5 ⟨rfl, HX⟩
          have HP5 : Hid (PlV w (.pointer (some da)) g l l.length (.slice ua l.length uc) l l.length ((((w5.setCell ⟨g, 0, none⟩ (.string (lg l))).setCell ⟨g, 1, none⟩ (.int .i64 ((lg l).size : Int))).setCell ⟨g, 2, none⟩ (.slice ua l.length uc)).setCell ⟨g, 3, none⟩ (.int .i64 (l.length : Int)))) := HP4.out.put HX (own_ext HP4.out.row HX) (fun b q => .inl q) rfl (by rw [wy_all]) rfl
          clear b0 b1 b2 b3 b4 b5 b6 b7 b8
          obtain ⟨b0, b1, b2, b3, b4, b5, b6, b7, b8⟩ := (HP4.out.ext HX).blk
          clear HP4 HX
          go_wp2_with fail
          generalize (((w5.setCell ⟨g, 0, none⟩ (.string (lg l))).setCell ⟨g, 1, none⟩ (.int .i64 ((lg l).size : Int))).setCell ⟨g, 2, none⟩ (.slice ua l.length uc)).setCell ⟨g, 3, none⟩ (.int .i64 (l.length : Int)) = w9 at *
          clear b0 b1 b2 b3 b4 b5 b6 b7 b8
          have HS := HP5.out.ext (Ext.refl w9).drew
          clear HP5
          refine wp_region_noPanic ?_
          refine wp_region_held (S := PlV w (.pointer (some da)) g l l.length (.slice ua l.length uc) l l.length) (by kernel_rfl) ?_
          rw [show ({ w9 with drawn := w9.drawn + 1 } : World) = w9.drew from rfl]
          generalize w9.drew = y1 at *
          refine held_take (i := 0) (v := ?vta0) rfl (by kernel_rfl) (by kernel_rfl) (by kernel_rfl) (fun _ _ _ h => h) rfl ?hyta0 HS ?restta0
          case hyta0 => (intro wx hSx; go_simp; try with_reducible rfl)
          try simp only [Act.put, List.setIfInBounds_toArray, List.set_cons_zero, List.set_cons_succ]
          refine held_take (i := 2) (v := ?vta2) rfl (by kernel_rfl) (by kernel_rfl) (by kernel_rfl) (fun _ _ _ h => h) rfl ?hyta2 HS ?restta2
          case hyta2 => (intro wx hSx; go_simp; try with_reducible rfl)
          try simp only [Act.put, List.setIfInBounds_toArray, List.set_cons_zero, List.set_cons_succ]
          refine held_take (i := 3) (v := ?vta3) rfl (by kernel_rfl) (by kernel_rfl) (by kernel_rfl) (fun _ _ _ h => h) rfl ?hyta3 HS ?restta3
          case hyta3 => (intro wx hSx; obtain ⟨z0, z1, z2, z3, z4, -⟩ := hSx.blk; go_simp; try with_reducible rfl)
          try simp only [Act.put, List.setIfInBounds_toArray, List.set_cons_zero, List.set_cons_succ]
          refine held_one (i := 1) (by kernel_rfl) rfl rfl (fun K hK => ?_)
          go_simp
          refine (uall_any HOk2.out HS.one).mono ?_
          rintro e y2 ⟨ub, ud, rfl, qr, HX⟩
          have HS2 := HS.ext HX
          clear HX
          try go_simp
          refine hK.out _ _ ⟨HS2, ?_⟩
          clear hK K
          try simp only [Act.put, List.setIfInBounds_toArray, List.set_cons_zero, List.set_cons_succ]
          refine held_one (i := 4) (by kernel_rfl) rfl rfl (fun K hK => ?_)
          go_simp
          refine (rsame_any _ _ l.length _ (by have := HOk2.out.few; omega) _ (own_lies qr) (own_lies HS2.row)).mono ?_
          rintro e y3 ⟨rfl, HX⟩
          have HS3 := HS2.ext HX
          clear HX
          try go_simp
          refine hK.out _ _ ⟨HS3, ?_⟩
          clear hK K
          try simp only [Act.put, List.setIfInBounds_toArray, List.set_cons_zero, List.set_cons_succ]
          refine held_take (i := 5) (v := ?vta5) rfl (by kernel_rfl) (by kernel_rfl) (by kernel_rfl) (fun _ _ _ h => h) rfl ?hyta5 HS3 ?restta5
          case hyta5 => (intro wx hSx; go_simp; try with_reducible rfl)
          try simp only [Act.put, List.setIfInBounds_toArray, List.set_cons_zero, List.set_cons_succ]
          refine held_take (i := 6) (v := ?vta6) rfl (by kernel_rfl) (by kernel_rfl) (by kernel_rfl) (fun _ _ _ h => h) rfl ?hyta6 HS3 ?restta6
          case hyta6 => (intro wx hSx; go_simp; try with_reducible rfl)
          try simp only [Act.put, List.setIfInBounds_toArray, List.set_cons_zero, List.set_cons_succ]
          refine held_take (i := 7) (v := ?vta7) rfl (by kernel_rfl) (by kernel_rfl) (by kernel_rfl) (fun _ _ _ h => h) rfl ?hyta7 HS3 ?restta7
          case hyta7 => (intro wx hSx; go_simp; try with_reducible rfl)
          try simp only [Act.put, List.setIfInBounds_toArray, List.set_cons_zero, List.set_cons_succ]
          refine held_take (i := 9) (v := ?vta9) rfl (by kernel_rfl) (by kernel_rfl) (by kernel_rfl) (fun _ _ _ h => h) rfl ?hyta9 HS3 ?restta9
          case hyta9 => (intro wx hSx; go_simp; try with_reducible rfl)
          try simp only [Act.put, List.setIfInBounds_toArray, List.set_cons_zero, List.set_cons_succ]
          refine held_take (i := 10) (v := ?vta10) rfl (by kernel_rfl) (by kernel_rfl) (by kernel_rfl) (fun _ _ _ h => h) rfl ?hyta10 HS3 ?restta10
          case hyta10 => (intro wx hSx; obtain ⟨z0, z1, z2, z3, z4, -⟩ := hSx.blk; go_simp; try with_reducible rfl)
          try simp only [Act.put, List.setIfInBounds_toArray, List.set_cons_zero, List.set_cons_succ]
          refine held_one (i := 8) (by kernel_rfl) rfl rfl (fun K hK => ?_)
          go_simp
          refine (usure_any HOk2.out HS3.one).mono ?_
          rintro e y4 ⟨rfl, HX⟩
          have HS4 := HS3.ext HX
          clear HX
          try go_simp
          refine hK.out _ _ ⟨HS4, ?_⟩
          clear hK K
          try simp only [Act.put, List.setIfInBounds_toArray, List.set_cons_zero, List.set_cons_succ]
          refine held_take (i := 11) (v := ?vta11) rfl (by kernel_rfl) (by kernel_rfl) (by kernel_rfl) (fun _ _ _ h => h) rfl ?hyta11 HS4 ?restta11
          case hyta11 => (intro wx hSx; go_simp; try with_reducible rfl)
          try simp only [Act.put, List.setIfInBounds_toArray, List.set_cons_zero, List.set_cons_succ]
          refine held_take (i := 12) (v := ?vta12) rfl (by kernel_rfl) (by kernel_rfl) (by kernel_rfl) (fun _ _ _ h => h) rfl ?hyta12 HS4 ?restta12
          case hyta12 => (intro wx hSx; go_simp; try with_reducible rfl)
          try simp only [Act.put, List.setIfInBounds_toArray, List.set_cons_zero, List.set_cons_succ]
          refine wpAnyH_done (by kernel_rfl) ?_ _
          refine NoPanic.normal ?_
          have HPn : Hid (∃ (a' : Option Addr) (c' : Nat), PlV w (.pointer (some da)) g (wPl k x K (j + 1)).1 (wPl k x K (j + 1)).2 (.slice a' (wPl k x K (j + 1)).1.length c') (wPl k x K (j + 1)).1 (wPl k x K (j + 1)).2 y4) := by
            rw [HNx.out]
            obtain ⟨a', c', e⟩ := liesT_len (own_lies HS4.row)
            exact ⟨a', c', e ▸ HS4⟩
          clear HS4
          go_wp2
          go_roundw
          case rel => exact ⟨j + 1, hlt, by push_cast; rfl, HPn⟩
          case measure => exact lp_meas hlt
        · by_cases hk2 : k j = 2
          · have HNx : Hid (wPl k x K (j + 1) = (wCr (wPl k x K j).1 (wPl k x K j).2 (K j), (wCr (wPl k x K j).1 (wPl k x K j).2 (K j)).length)) := wPl_crash hk1 hk2
            generalize (wPl k x K j).1 = l at *
            generalize (wPl k x K j).2 = y at *
            have HC : Hid (∀ W, PlV w (.pointer (some da)) g l y (.slice ua l.length uc) l y W → Calls Try.prog 13 #[.pointer (some da), .int .u64 (K j : Int)] W fun e w' => e = .returned (.tuple #[]) ∧ PlV w (.pointer (some da)) g (wCr l y (K j)) (wCr l y (K j)).length (.slice ua l.length uc) l y w') := fun W h => vcrash_any (K j) HOk.out HKj.out h
            have HR : Hid (∀ W, Calls Try.prog 14 #[wV (lg l) (wy l y) (.slice ua l.length uc) y, .int .u64 (K j : Int)] W fun e w' => ∃ va vc, e = .returned (wV (lg (wCr l y (K j))) (wy (wCr l y (K j)) (wCr l y (K j)).length) (.slice va (wCr l y (K j)).length vc) (wCr l y (K j)).length) ∧ w'.ownsRow W.heap.size 9 1 (.slice va (wCr l y (K j)).length vc) (wCr l y (K j)).length (tcs (wCr l y (K j))) ∧ Ext W w') := fun W => by
              refine (rwcrash_any l y (K j) _ HOk.out HKj.out W).mono ?_
              rintro e w' ⟨u, rfl, q1, q2⟩
              obtain ⟨va, vc, rfl⟩ := liesT_len (own_lies q1)
              exact ⟨va, vc, rfl, q1, q2⟩
            have HOk2 : Hid (wOk (wCr l y (K j)) (wCr l y (K j)).length) := wCr_ok HOk.out (K j)
            generalize wCr l y (K j) = l2 at *
            obtain ⟨ga, off, rfl, hbl, hd0, hd1, hd2⟩ := (HL.out.ext HPr.old).get hlt
            have HP : Hid (PlV w (.pointer (some da)) g l y (.slice ua l.length uc) l y wr) := HPr
            clear HPr HKj
            go_wp2_with fail
            refine (HC.out _ HP.out).mono ?_
            rintro e w4 ⟨rfl, HPy⟩
            have HP4 : Hid (PlV w (.pointer (some da)) g l2 l2.length (.slice ua l.length uc) l y w4) := HPy
            obtain ⟨b0, b1, b2, b3, b4, b5, b6, b7, b8⟩ := HPy.blk
            obtain ⟨ga', off', eg, hbl', he0, he1, he2⟩ := (HL.out.ext HPy.old).get hlt
            injection eg with eg
            injection eg with eg1 eg2
            subst eg1 eg2
            clear HPy HP hd0 hd1 hd2 hbl HC
            go_wp2_with fail
            have HS : Ext w4 w4.drew := (Ext.refl w4).drew
            refine wp_region_noPanic ?_
            refine wp_region_until (X := 7) (S := Ext w4) (by kernel_rfl) ?_
            generalize w4.drew = x0 at *
            refine until_take (i := 0) (v := ?vc0) rfl (by kernel_rfl) (by kernel_rfl) (by kernel_rfl) (by kernel_rfl) (by kernel_rfl) (fun _ _ _ h => h) rfl ?hyc0 HS ?restc0
            case hyc0 => (intro w hSw; have z0 := Nat.lt_of_lt_of_le b0 hSw.size; have z1 := later hSw b1; have z2 := later hSw b2; have z3 := later hSw b3; have z4 := later hSw b4; go_simp; try with_reducible rfl)
            try simp only [Act.put, List.setIfInBounds_toArray, List.set_cons_zero, List.set_cons_succ]
            refine until_take (i := 1) (v := ?vc1) rfl (by kernel_rfl) (by kernel_rfl) (by kernel_rfl) (by kernel_rfl) (by kernel_rfl) (fun _ _ _ h => h) rfl ?hyc1 HS ?restc1
            case hyc1 => (intro w hSw; go_simp; try with_reducible rfl)
            try simp only [Act.put, List.setIfInBounds_toArray, List.set_cons_zero, List.set_cons_succ]
            refine until_take (i := 2) (v := ?vc2) rfl (by kernel_rfl) (by kernel_rfl) (by kernel_rfl) (by kernel_rfl) (by kernel_rfl) (fun _ _ _ h => h) rfl ?hyc2 HS ?restc2
            case hyc2 => (intro w hSw; go_simp; try with_reducible rfl)
            try simp only [Act.put, List.setIfInBounds_toArray, List.set_cons_zero, List.set_cons_succ]
            refine until_take (i := 3) (v := ?vc3) rfl (by kernel_rfl) (by kernel_rfl) (by kernel_rfl) (by kernel_rfl) (by kernel_rfl) (fun _ _ _ h => h) rfl ?hyc3 HS ?restc3
            case hyc3 => (intro w hSw; go_simp; try with_reducible rfl)
            try simp only [Act.put, List.setIfInBounds_toArray, List.set_cons_zero, List.set_cons_succ]
            refine until_take (i := 4) (v := ?vc4) rfl (by kernel_rfl) (by kernel_rfl) (by kernel_rfl) (by kernel_rfl) (by kernel_rfl) (fun _ _ _ h => h) rfl ?hyc4 HS ?restc4
            case hyc4 => (intro w hSw; go_simp; try with_reducible rfl)
            try simp only [Act.put, List.setIfInBounds_toArray, List.set_cons_zero, List.set_cons_succ]
            refine until_take (i := 5) (v := ?vc5) rfl (by kernel_rfl) (by kernel_rfl) (by kernel_rfl) (by kernel_rfl) (by kernel_rfl) (fun _ _ _ h => h) rfl ?hyc5 HS ?restc5
            case hyc5 => (intro w hSw; have z0 := Nat.lt_of_lt_of_le hbl' hSw.size; have z1 := later hSw he0; have z2 := later hSw he1; have z3 := later hSw he2; go_simp; try with_reducible rfl)
            try simp only [Act.put, List.setIfInBounds_toArray, List.set_cons_zero, List.set_cons_succ]
            refine until_one (i := 6) (by kernel_rfl) (by kernel_rfl) rfl rfl (fun K hK => ?_)
            go_simp
            refine (HR.out _).mono ?_
            rintro e w5 ⟨va, vc, rfl, q5, HX⟩
            have HS5 := HS.trans HX
            have HP5 : Hid (PlV w (.pointer (some da)) g l2 l2.length (.slice va l2.length vc) l2 l2.length ((((w5.setCell ⟨g, 0, none⟩ (.string (lg l2))).setCell ⟨g, 1, none⟩ (.int .i64 (wy l2 l2.length : Int))).setCell ⟨g, 2, none⟩ (.slice va l2.length vc)).setCell ⟨g, 3, none⟩ (.int .i64 (l2.length : Int)))) := HP4.out.put HS5 (own_base q5 (Nat.zero_le _)) (fun b q => .inr (by have := (q5.lt b q).1; have := HS.size; omega)) rfl rfl rfl
            go_simp
            refine hK.out _ _ HS5 ?_
            clear hK K q5 HX
            try simp only [Act.put, List.setIfInBounds_toArray, List.set_cons_zero, List.set_cons_succ]
            refine until_last (by kernel_rfl) (by kernel_rfl) rfl rfl (fun K hK => ?_)
            obtain ⟨d0, d1, d2, d3, d4, d5, d6, d7, d8⟩ := (HP4.out.ext HS5).blk
            go_simp
            refine hK.out _ _ (NoPanic.normal ?_)
            clear hK K
            try simp only [Act.put, List.setIfInBounds_toArray, List.set_cons_zero, List.set_cons_succ]
            clear b0 b1 b2 b3 b4 b5 b6 b7 b8 d0 d1 d2 d3 d4 d5 d6 d7 d8 he0 he1 he2 hbl' HP4 HS HS5
            generalize (((w5.setCell ⟨g, 0, none⟩ (.string (lg l2))).setCell ⟨g, 1, none⟩ (.int .i64 (wy l2 l2.length : Int))).setCell ⟨g, 2, none⟩ (.slice va l2.length vc)).setCell ⟨g, 3, none⟩ (.int .i64 (l2.length : Int)) = w9 at *
            go_wp2_with fail
            have HS := HP5.out.ext (Ext.refl w9).drew
            clear HP5
            refine wp_region_noPanic ?_
            refine wp_region_held (S := PlV w (.pointer (some da)) g l2 l2.length (.slice va l2.length vc) l2 l2.length) (by kernel_rfl) ?_
            rw [show ({ w9 with drawn := w9.drawn + 1 } : World) = w9.drew from rfl]
            generalize w9.drew = y1 at *
            refine held_take (i := 0) (v := ?vtb0) rfl (by kernel_rfl) (by kernel_rfl) (by kernel_rfl) (fun _ _ _ h => h) rfl ?hytb0 HS ?resttb0
            case hytb0 => (intro wx hSx; go_simp; try with_reducible rfl)
            try simp only [Act.put, List.setIfInBounds_toArray, List.set_cons_zero, List.set_cons_succ]
            refine held_take (i := 2) (v := ?vtb2) rfl (by kernel_rfl) (by kernel_rfl) (by kernel_rfl) (fun _ _ _ h => h) rfl ?hytb2 HS ?resttb2
            case hytb2 => (intro wx hSx; go_simp; try with_reducible rfl)
            try simp only [Act.put, List.setIfInBounds_toArray, List.set_cons_zero, List.set_cons_succ]
            refine held_take (i := 3) (v := ?vtb3) rfl (by kernel_rfl) (by kernel_rfl) (by kernel_rfl) (fun _ _ _ h => h) rfl ?hytb3 HS ?resttb3
            case hytb3 => (intro wx hSx; obtain ⟨z0, z1, z2, z3, z4, -⟩ := hSx.blk; go_simp; try with_reducible rfl)
            try simp only [Act.put, List.setIfInBounds_toArray, List.set_cons_zero, List.set_cons_succ]
            refine held_one (i := 1) (by kernel_rfl) rfl rfl (fun K hK => ?_)
            go_simp
            refine (uall_any HOk2.out HS.one).mono ?_
            rintro e y2 ⟨ub, ud, rfl, qr, HX⟩
            have HS2 := HS.ext HX
            clear HX
            try go_simp
            refine hK.out _ _ ⟨HS2, ?_⟩
            clear hK K
            try simp only [Act.put, List.setIfInBounds_toArray, List.set_cons_zero, List.set_cons_succ]
            refine held_one (i := 4) (by kernel_rfl) rfl rfl (fun K hK => ?_)
            go_simp
            refine (rsame_any _ _ l2.length _ (by have := HOk2.out.few; omega) _ (own_lies qr) (own_lies HS2.row)).mono ?_
            rintro e y3 ⟨rfl, HX⟩
            have HS3 := HS2.ext HX
            clear HX
            try go_simp
            refine hK.out _ _ ⟨HS3, ?_⟩
            clear hK K
            try simp only [Act.put, List.setIfInBounds_toArray, List.set_cons_zero, List.set_cons_succ]
            refine held_take (i := 5) (v := ?vtb5) rfl (by kernel_rfl) (by kernel_rfl) (by kernel_rfl) (fun _ _ _ h => h) rfl ?hytb5 HS3 ?resttb5
            case hytb5 => (intro wx hSx; go_simp; try with_reducible rfl)
            try simp only [Act.put, List.setIfInBounds_toArray, List.set_cons_zero, List.set_cons_succ]
            refine held_take (i := 6) (v := ?vtb6) rfl (by kernel_rfl) (by kernel_rfl) (by kernel_rfl) (fun _ _ _ h => h) rfl ?hytb6 HS3 ?resttb6
            case hytb6 => (intro wx hSx; go_simp; try with_reducible rfl)
            try simp only [Act.put, List.setIfInBounds_toArray, List.set_cons_zero, List.set_cons_succ]
            refine held_take (i := 7) (v := ?vtb7) rfl (by kernel_rfl) (by kernel_rfl) (by kernel_rfl) (fun _ _ _ h => h) rfl ?hytb7 HS3 ?resttb7
            case hytb7 => (intro wx hSx; go_simp; try with_reducible rfl)
            try simp only [Act.put, List.setIfInBounds_toArray, List.set_cons_zero, List.set_cons_succ]
            refine held_take (i := 9) (v := ?vtb9) rfl (by kernel_rfl) (by kernel_rfl) (by kernel_rfl) (fun _ _ _ h => h) rfl ?hytb9 HS3 ?resttb9
            case hytb9 => (intro wx hSx; go_simp; try with_reducible rfl)
            try simp only [Act.put, List.setIfInBounds_toArray, List.set_cons_zero, List.set_cons_succ]
            refine held_take (i := 10) (v := ?vtb10) rfl (by kernel_rfl) (by kernel_rfl) (by kernel_rfl) (fun _ _ _ h => h) rfl ?hytb10 HS3 ?resttb10
            case hytb10 => (intro wx hSx; obtain ⟨z0, z1, z2, z3, z4, -⟩ := hSx.blk; go_simp; try with_reducible rfl)
            try simp only [Act.put, List.setIfInBounds_toArray, List.set_cons_zero, List.set_cons_succ]
            refine held_one (i := 8) (by kernel_rfl) rfl rfl (fun K hK => ?_)
            go_simp
            refine (usure_any HOk2.out HS3.one).mono ?_
            rintro e y4 ⟨rfl, HX⟩
            have HS4 := HS3.ext HX
            clear HX
            try go_simp
            refine hK.out _ _ ⟨HS4, ?_⟩
            clear hK K
            try simp only [Act.put, List.setIfInBounds_toArray, List.set_cons_zero, List.set_cons_succ]
            refine held_take (i := 11) (v := ?vtb11) rfl (by kernel_rfl) (by kernel_rfl) (by kernel_rfl) (fun _ _ _ h => h) rfl ?hytb11 HS4 ?resttb11
            case hytb11 => (intro wx hSx; go_simp; try with_reducible rfl)
            try simp only [Act.put, List.setIfInBounds_toArray, List.set_cons_zero, List.set_cons_succ]
            refine held_take (i := 12) (v := ?vtb12) rfl (by kernel_rfl) (by kernel_rfl) (by kernel_rfl) (fun _ _ _ h => h) rfl ?hytb12 HS4 ?resttb12
            case hytb12 => (intro wx hSx; go_simp; try with_reducible rfl)
            try simp only [Act.put, List.setIfInBounds_toArray, List.set_cons_zero, List.set_cons_succ]
            refine wpAnyH_done (by kernel_rfl) ?_ _
            refine NoPanic.normal ?_
            have HPn : Hid (∃ (a' : Option Addr) (c' : Nat), PlV w (.pointer (some da)) g (wPl k x K (j + 1)).1 (wPl k x K (j + 1)).2 (.slice a' (wPl k x K (j + 1)).1.length c') (wPl k x K (j + 1)).1 (wPl k x K (j + 1)).2 y4) := by
              rw [HNx.out]
              obtain ⟨a', c', e⟩ := liesT_len (own_lies HS4.row)
              exact ⟨a', c', e ▸ HS4⟩
            clear HS4
            go_wp2
            go_roundw
            case rel => exact ⟨j + 1, hlt, by push_cast; rfl, HPn⟩
            case measure => exact lp_meas hlt
          · have HNx : Hid (wPl k x K (j + 1) = ((wApp (wPl k x K j).1 (x j)).1, (wPl k x K j).2)) := wPl_app hk1 hk2
            generalize (wPl k x K j).1 = l at *
            generalize (wPl k x K j).2 = y at *
            obtain ⟨l2, r, hlr⟩ : ∃ l2 r, wApp l (x j) = (l2, r) := ⟨_, _, rfl⟩
            have HC : Hid (∀ W u, PlV w (.pointer (some da)) g l y u l2 y W → Calls Try.prog 16 #[.pointer (some da), .string (x j)] W fun e w' => e = .returned (.int .i64 r) ∧ PlV w (.pointer (some da)) g l2 y u l2 y w') := fun W u h => by
              have := vappend_any (x j) HOk.out h
              rw [hlr] at this
              exact this
            have HR : Hid (∀ W, W.ownsRow 0 9 1 (.slice ua l.length uc) l.length (tcs l) → Calls Try.prog 15 #[wV (lg l) (wy l y) (.slice ua l.length uc) y, .string (x j)] W fun e w' => ∃ va vc, e = .returned (.tuple #[wV (lg l2) (wy l2 y) (.slice va l2.length vc) y, .int .i64 r]) ∧ w'.ownsRow 0 9 1 (.slice va l2.length vc) l2.length (tcs l2) ∧ (∀ b, Value.ownBlock (.slice va l2.length vc) = some b → Value.ownBlock (.slice ua l.length uc) = some b ∨ W.heap.size ≤ b) ∧ Ext W w') := fun W h => by
              have := rwappend_any l y _ (x j) HOk.out W h
              unfold RaP at this
              rw [hlr] at this
              refine this.mono ?_
              rintro e w' ⟨u, rfl, q1, q2, q3⟩
              obtain ⟨va, vc, rfl⟩ := liesT_len (own_lies q1)
              exact ⟨va, vc, rfl, q1, q2, q3⟩
            have HOk2 : Hid (wOk l2 y) := by have := wApp_ok HOk.out (x j); rw [hlr] at this; exact this
            rw [hlr] at HNx
            have HNx : Hid (wPl k x K (j + 1) = (l2, y)) := HNx
            obtain ⟨ga, off, rfl, hbl, hd0, hd1, hd2⟩ := (HL.out.ext HPr.old).get hlt
            have HP : Hid (PlV w (.pointer (some da)) g l y (.slice ua l.length uc) l y wr) := HPr
            clear HPr HKj hlr HOk
            go_upto_region 8 with fail
            go_cut [6, 7, 45, 51] (fun u6 u7 _ _ wx => ∃ (gy : Nat) (va : Option Addr) (vc : Nat), u6 = .pointer (some ⟨gy, 0, none⟩) ∧ u7 = .int .i64 r ∧ Hid (PlV w (.pointer (some da)) g l y (.slice ua l.length uc) l y wx ∧ Blk4 wx gy (.string (lg l2)) (.int .i64 (wy l2 y : Int)) (.slice va l2.length vc) (.int .i64 (y : Int)) ∧ gy ≠ g ∧ Ext wr wx ∧ wx.ownsRow 0 9 1 (.slice va l2.length vc) l2.length (tcs l2) ∧ (∀ b, Value.ownBlock (.slice va l2.length vc) = some b → Value.ownBlock (.slice ua l.length uc) = some b ∨ wr.heap.size ≤ b)))
            case first =>
              obtain ⟨b0, b1, b2, b3, b4, b5, b6, b7, b8⟩ := HP.out.blk
              have HU : Hid (wr.ownsRow 0 9 1 (.slice ua l.length uc) l.length (tcs l)) := HP.out.row
              have HS : Ext wr wr.drew := (Ext.refl wr).drew
              refine wp_region_noPanic ?_
              refine wp_region_held (S := Ext wr) (by kernel_rfl) ?_
              rw [show ({ wr with drawn := wr.drawn + 1 } : World) = wr.drew from rfl]
              generalize wr.drew = x0 at *
              refine held_take (i := 0) (v := ?vp0) rfl (by kernel_rfl) (by kernel_rfl) (by kernel_rfl) (fun _ _ _ h => h) rfl ?hyp0 HS ?restp0
              case hyp0 => (intro wx hSx; have z0 := Nat.lt_of_lt_of_le b0 hSx.size; have z1 := later hSx b1; have z2 := later hSx b2; have z3 := later hSx b3; have z4 := later hSx b4; go_simp; try with_reducible rfl)
              try simp only [Act.put, List.setIfInBounds_toArray, List.set_cons_zero, List.set_cons_succ]
              refine held_take (i := 1) (v := ?vp1) rfl (by kernel_rfl) (by kernel_rfl) (by kernel_rfl) (fun _ _ _ h => h) rfl ?hyp1 HS ?restp1
              case hyp1 => (intro wx hSx; go_simp; try with_reducible rfl)
              try simp only [Act.put, List.setIfInBounds_toArray, List.set_cons_zero, List.set_cons_succ]
              refine held_take (i := 2) (v := ?vp2) rfl (by kernel_rfl) (by kernel_rfl) (by kernel_rfl) (fun _ _ _ h => h) rfl ?hyp2 HS ?restp2
              case hyp2 => (intro wx hSx; go_simp; try with_reducible rfl)
              try simp only [Act.put, List.setIfInBounds_toArray, List.set_cons_zero, List.set_cons_succ]
              refine held_take (i := 3) (v := ?vp3) rfl (by kernel_rfl) (by kernel_rfl) (by kernel_rfl) (fun _ _ _ h => h) rfl ?hyp3 HS ?restp3
              case hyp3 => (intro wx hSx; go_simp; try with_reducible rfl)
              try simp only [Act.put, List.setIfInBounds_toArray, List.set_cons_zero, List.set_cons_succ]
              refine held_take (i := 4) (v := ?vp4) rfl (by kernel_rfl) (by kernel_rfl) (by kernel_rfl) (fun _ _ _ h => h) rfl ?hyp4 HS ?restp4
              case hyp4 => (intro wx hSx; go_simp; try with_reducible rfl)
              try simp only [Act.put, List.setIfInBounds_toArray, List.set_cons_zero, List.set_cons_succ]
              refine held_take (i := 5) (v := ?vp5) rfl (by kernel_rfl) (by kernel_rfl) (by kernel_rfl) (fun _ _ _ h => h) rfl ?hyp5 HS ?restp5
              case hyp5 => (intro wx hSx; have z0 := Nat.lt_of_lt_of_le hbl hSx.size; have z1 := later hSx hd0; have z2 := later hSx hd1; have z3 := later hSx hd2; go_simp; try with_reducible rfl)
              try simp only [Act.put, List.setIfInBounds_toArray, List.set_cons_zero, List.set_cons_succ]
              refine held_two (i := 6) (k := 10) (by kernel_rfl) rfl rfl rfl rfl (fun K hK => ?_) (fun K hK => ?_)
              · go_simp
                refine (HR.out _ (own_ext HU.out HS)).mono ?_
                rintro e x1 ⟨va, vc, rfl, qr1, qb1, HX⟩
                have H1 := HS.trans HX
                have QB : ∀ b, Value.ownBlock (.slice va l2.length vc) = some b → Value.ownBlock (.slice ua l.length uc) = some b ∨ wr.heap.size ≤ b := fun b q => (qb1 b q).imp id (fun z => Nat.le_trans HS.size z)
                clear HX qb1
                try go_simp
                refine hK.out _ _ ⟨H1, ?_⟩
                clear hK K
                try simp only [Act.put, List.setIfInBounds_toArray, List.set_cons_zero, List.set_cons_succ]
                refine held_take (i := 7) (v := ?vp7n1) rfl (by kernel_rfl) (by kernel_rfl) (by kernel_rfl) (fun _ _ _ h => h) rfl ?hyp7n1 H1 ?restp7n1
                case hyp7n1 => (intro wx hSx; go_simp; try with_reducible rfl)
                try simp only [Act.put, List.setIfInBounds_toArray, List.set_cons_zero, List.set_cons_succ]
                refine held_take (i := 8) (v := ?vp8n1) rfl (by kernel_rfl) (by kernel_rfl) (by kernel_rfl) (fun _ _ _ h => h) rfl ?hyp8n1 H1 ?restp8n1
                case hyp8n1 => (intro wx hSx; go_simp; try with_reducible rfl)
                try simp only [Act.put, List.setIfInBounds_toArray, List.set_cons_zero, List.set_cons_succ]
                refine held_take (i := 9) (v := ?vp9n1) rfl (by kernel_rfl) (by kernel_rfl) (by kernel_rfl) (fun _ _ _ h => h) rfl ?hyp9n1 H1 ?restp9n1
                case hyp9n1 => (intro wx hSx; go_simp; try with_reducible rfl)
                try simp only [Act.put, List.setIfInBounds_toArray, List.set_cons_zero, List.set_cons_succ]
                refine held_one (i := 10) (by kernel_rfl) rfl rfl (fun K hK => ?_)
                go_simp
                have H2 := H1.alloc (.cells #[.string ⟨#[]⟩, .int .i64 0, .slice none 0 0, .int .i64 0] 31)
                have D2 := Blk4.new x1 31 (.string ⟨#[]⟩) (.int .i64 0) (.slice none 0 0) (.int .i64 0)
                have GY := H1.size
                have NE : ∀ b, Value.ownBlock (.slice va l2.length vc) = some b → b ≠ x1.heap.size := fun b q z => by have := (qr1.lt b q).2; omega
                have qr2 := own_ext qr1 ((Ext.refl x1).alloc (.cells #[.string ⟨#[]⟩, .int .i64 0, .slice none 0 0, .int .i64 0] 31))
                clear H1
                generalize x1.alloc (.cells #[.string ⟨#[]⟩, .int .i64 0, .slice none 0 0, .int .i64 0] 31) = x2 at *
                generalize x1.heap.size = gy at *
                try go_simp
                refine hK.out _ _ ⟨H2, ?_⟩
                clear hK K
                try simp only [Act.put, List.setIfInBounds_toArray, List.set_cons_zero, List.set_cons_succ]
                refine held_one (i := 11) (by kernel_rfl) rfl rfl (fun K hK => ?_)
                obtain ⟨e0, e1, e2, e3, e4, e5, e6, e7, e8⟩ := id D2
                go_simp
                have H3 : Ext wr ((((x2.setCell ⟨gy, 0, none⟩ (.string (lg l2))).setCell ⟨gy, 1, none⟩ (.int .i64 (wy l2 y : Int))).setCell ⟨gy, 2, none⟩ (.slice va l2.length vc)).setCell ⟨gy, 3, none⟩ (.int .i64 (y : Int))) := Ext.st GY (Ext.st GY (Ext.st GY (Ext.st GY H2)))
                have D3 := D2.put (.string (lg l2)) (.int .i64 (wy l2 y : Int)) (.slice va l2.length vc) (.int .i64 (y : Int))
                have qr3 : ((((x2.setCell ⟨gy, 0, none⟩ (.string (lg l2))).setCell ⟨gy, 1, none⟩ (.int .i64 (wy l2 y : Int))).setCell ⟨gy, 2, none⟩ (.slice va l2.length vc)).setCell ⟨gy, 3, none⟩ (.int .i64 (y : Int))).ownsRow 0 9 1 (.slice va l2.length vc) l2.length (tcs l2) := by
                  have hne : Value.ownBlock (.slice va l2.length vc) ≠ some gy := fun q => NE gy q rfl
                  exact own_setCell (own_setCell (own_setCell (own_setCell qr2 hne) hne) hne) hne
                generalize (((x2.setCell ⟨gy, 0, none⟩ (.string (lg l2))).setCell ⟨gy, 1, none⟩ (.int .i64 (wy l2 y : Int))).setCell ⟨gy, 2, none⟩ (.slice va l2.length vc)).setCell ⟨gy, 3, none⟩ (.int .i64 (y : Int)) = x3 at *
                clear e0 e1 e2 e3 e4 e5 e6 e7 e8
                try go_simp
                refine hK.out _ _ ⟨H3, ?_⟩
                clear hK K
                try simp only [Act.put, List.setIfInBounds_toArray, List.set_cons_zero, List.set_cons_succ]
                refine held_take (i := 12) (v := ?vp12n1) rfl (by kernel_rfl) (by kernel_rfl) (by kernel_rfl) (fun _ _ _ h => h) rfl ?hyp12n1 H3 ?restp12n1
                case hyp12n1 => (intro wx hSx; go_simp; try with_reducible rfl)
                try simp only [Act.put, List.setIfInBounds_toArray, List.set_cons_zero, List.set_cons_succ]
                refine wpAnyH_done (by kernel_rfl) ?_ _
                refine NoPanic.normal ?_
                have hgg : gy ≠ g := by omega
                go_wp2_with fail
                go_meet
                case rel => exact ⟨gy, va, vc, rfl, rfl, HP.out.ext H3, D3, hgg, H3, qr3, QB⟩
              · go_simp
                have H1 := HS.alloc (.cells #[.string ⟨#[]⟩, .int .i64 0, .slice none 0 0, .int .i64 0] 31)
                have D1 := Blk4.new x0 31 (.string ⟨#[]⟩) (.int .i64 0) (.slice none 0 0) (.int .i64 0)
                have GY := HS.size
                generalize x0.alloc (.cells #[.string ⟨#[]⟩, .int .i64 0, .slice none 0 0, .int .i64 0] 31) = x1 at *
                generalize x0.heap.size = gy at *
                try go_simp
                refine hK.out _ _ ⟨H1, ?_⟩
                clear hK K
                try simp only [Act.put, List.setIfInBounds_toArray, List.set_cons_zero, List.set_cons_succ]
                refine held_one (i := 6) (by kernel_rfl) rfl rfl (fun K hK => ?_)
                go_simp
                refine (HR.out _ (own_ext HU.out H1)).mono ?_
                rintro e x2 ⟨va, vc, rfl, qr2, qb2, HX⟩
                have H2 := H1.trans HX
                have QB : ∀ b, Value.ownBlock (.slice va l2.length vc) = some b → Value.ownBlock (.slice ua l.length uc) = some b ∨ wr.heap.size ≤ b := fun b q => (qb2 b q).imp id (fun z => Nat.le_trans H1.size z)
                have D2 := D1.ext HX
                have NE : ∀ b, Value.ownBlock (.slice va l2.length vc) = some b → b ≠ gy := fun b q z => by
                  rcases qb2 b q with c | c
                  · have := (HU.out.lt b c).2; omega
                  · have := D1.1; omega
                clear HX qb2
                try go_simp
                refine hK.out _ _ ⟨H2, ?_⟩
                clear hK K
                try simp only [Act.put, List.setIfInBounds_toArray, List.set_cons_zero, List.set_cons_succ]
                refine held_take (i := 7) (v := ?vp7n2) rfl (by kernel_rfl) (by kernel_rfl) (by kernel_rfl) (fun _ _ _ h => h) rfl ?hyp7n2 H2 ?restp7n2
                case hyp7n2 => (intro wx hSx; go_simp; try with_reducible rfl)
                try simp only [Act.put, List.setIfInBounds_toArray, List.set_cons_zero, List.set_cons_succ]
                refine held_take (i := 8) (v := ?vp8n2) rfl (by kernel_rfl) (by kernel_rfl) (by kernel_rfl) (fun _ _ _ h => h) rfl ?hyp8n2 H2 ?restp8n2
                case hyp8n2 => (intro wx hSx; go_simp; try with_reducible rfl)
                try simp only [Act.put, List.setIfInBounds_toArray, List.set_cons_zero, List.set_cons_succ]
                refine held_take (i := 9) (v := ?vp9n2) rfl (by kernel_rfl) (by kernel_rfl) (by kernel_rfl) (fun _ _ _ h => h) rfl ?hyp9n2 H2 ?restp9n2
                case hyp9n2 => (intro wx hSx; go_simp; try with_reducible rfl)
                try simp only [Act.put, List.setIfInBounds_toArray, List.set_cons_zero, List.set_cons_succ]
                refine held_one (i := 11) (by kernel_rfl) rfl rfl (fun K hK => ?_)
                obtain ⟨e0, e1, e2, e3, e4, e5, e6, e7, e8⟩ := id D2
                go_simp
                have H3 : Ext wr ((((x2.setCell ⟨gy, 0, none⟩ (.string (lg l2))).setCell ⟨gy, 1, none⟩ (.int .i64 (wy l2 y : Int))).setCell ⟨gy, 2, none⟩ (.slice va l2.length vc)).setCell ⟨gy, 3, none⟩ (.int .i64 (y : Int))) := Ext.st GY (Ext.st GY (Ext.st GY (Ext.st GY H2)))
                have D3 := D2.put (.string (lg l2)) (.int .i64 (wy l2 y : Int)) (.slice va l2.length vc) (.int .i64 (y : Int))
                have qr3 : ((((x2.setCell ⟨gy, 0, none⟩ (.string (lg l2))).setCell ⟨gy, 1, none⟩ (.int .i64 (wy l2 y : Int))).setCell ⟨gy, 2, none⟩ (.slice va l2.length vc)).setCell ⟨gy, 3, none⟩ (.int .i64 (y : Int))).ownsRow 0 9 1 (.slice va l2.length vc) l2.length (tcs l2) := by
                  have hne : Value.ownBlock (.slice va l2.length vc) ≠ some gy := fun q => NE gy q rfl
                  exact own_setCell (own_setCell (own_setCell (own_setCell qr2 hne) hne) hne) hne
                generalize (((x2.setCell ⟨gy, 0, none⟩ (.string (lg l2))).setCell ⟨gy, 1, none⟩ (.int .i64 (wy l2 y : Int))).setCell ⟨gy, 2, none⟩ (.slice va l2.length vc)).setCell ⟨gy, 3, none⟩ (.int .i64 (y : Int)) = x3 at *
                clear e0 e1 e2 e3 e4 e5 e6 e7 e8
                try go_simp
                refine hK.out _ _ ⟨H3, ?_⟩
                clear hK K
                try simp only [Act.put, List.setIfInBounds_toArray, List.set_cons_zero, List.set_cons_succ]
                refine held_take (i := 12) (v := ?vp12n2) rfl (by kernel_rfl) (by kernel_rfl) (by kernel_rfl) (fun _ _ _ h => h) rfl ?hyp12n2 H3 ?restp12n2
                case hyp12n2 => (intro wx hSx; go_simp; try with_reducible rfl)
                try simp only [Act.put, List.setIfInBounds_toArray, List.set_cons_zero, List.set_cons_succ]
                refine wpAnyH_done (by kernel_rfl) ?_ _
                refine NoPanic.normal ?_
                have hgg : gy ≠ g := by omega
                go_wp2_with fail
                go_meet
                case rel => exact ⟨gy, va, vc, rfl, rfl, HP.out.ext H3, D3, hgg, H3, qr3, QB⟩
            case rest =>
              obtain ⟨gy, va, vc, rfl, rfl, HPy⟩ := hcut
              obtain ⟨r1, r2, r3, r4, r5, r6⟩ := HPy.out
              obtain ⟨b0, b1, b2, b3, b4, b5, b6, b7, b8⟩ := r1.blk
              obtain ⟨e0, e1, e2, e3, e4, e5, e6, e7, e8⟩ := r2
              have HP5 : Hid (PlV w (.pointer (some da)) g l y (.slice va l2.length vc) l2 y ((((wc.setCell ⟨g, 0, none⟩ (.string (lg l2))).setCell ⟨g, 1, none⟩ (.int .i64 (wy l2 y : Int))).setCell ⟨g, 2, none⟩ (.slice va l2.length vc)).setCell ⟨g, 3, none⟩ (.int .i64 (y : Int)))) := HP.out.put r4 r5 r6 rfl rfl rfl
              clear HP HPy r1 r3 r4 r5 r6 HR hd0 hd1 hd2 hbl
              go_upto_region 10 with fail
              clear b0 b1 b2 b3 b4 b5 b6 b7 b8 e0 e1 e2 e3 e4 e5 e6 e7 e8
              generalize (((wc.setCell ⟨g, 0, none⟩ (.string (lg l2))).setCell ⟨g, 1, none⟩ (.int .i64 (wy l2 y : Int))).setCell ⟨g, 2, none⟩ (.slice va l2.length vc)).setCell ⟨g, 3, none⟩ (.int .i64 (y : Int)) = w8 at *
              obtain ⟨ga', off', eg, hbl', he0, he1, he2⟩ := (HL.out.ext HP5.out.old).get hlt
              injection eg with eg
              injection eg with eg1 eg2
              subst eg1 eg2
              go_wp2_with fail
              refine (HC.out _ _ HP5.out).mono ?_
              rintro e w9 ⟨rfl, HPy⟩
              have HP6 : Hid (PlV w (.pointer (some da)) g l2 y (.slice va l2.length vc) l2 y w9) := HPy
              clear HPy HP5 HC he0 he1 he2 hbl'
              go_wp2_with fail
              have HS := HP6.out.ext (Ext.refl w9).drew
              clear HP6
              refine wp_region_noPanic ?_
              refine wp_region_held (S := PlV w (.pointer (some da)) g l2 y (.slice va l2.length vc) l2 y) (by kernel_rfl) ?_
              rw [show ({ w9 with drawn := w9.drawn + 1 } : World) = w9.drew from rfl]
              generalize w9.drew = y1 at *
              refine held_take (i := 0) (v := ?vtc0) rfl (by kernel_rfl) (by kernel_rfl) (by kernel_rfl) (fun _ _ _ h => h) rfl ?hytc0 HS ?resttc0
              case hytc0 => (intro wx hSx; go_simp; try with_reducible rfl)
              try simp only [Act.put, List.setIfInBounds_toArray, List.set_cons_zero, List.set_cons_succ]
              refine held_take (i := 2) (v := ?vtc2) rfl (by kernel_rfl) (by kernel_rfl) (by kernel_rfl) (fun _ _ _ h => h) rfl ?hytc2 HS ?resttc2
              case hytc2 => (intro wx hSx; go_simp; try with_reducible rfl)
              try simp only [Act.put, List.setIfInBounds_toArray, List.set_cons_zero, List.set_cons_succ]
              refine held_take (i := 3) (v := ?vtc3) rfl (by kernel_rfl) (by kernel_rfl) (by kernel_rfl) (fun _ _ _ h => h) rfl ?hytc3 HS ?resttc3
              case hytc3 => (intro wx hSx; obtain ⟨z0, z1, z2, z3, z4, -⟩ := hSx.blk; go_simp; try with_reducible rfl)
              try simp only [Act.put, List.setIfInBounds_toArray, List.set_cons_zero, List.set_cons_succ]
              refine held_one (i := 1) (by kernel_rfl) rfl rfl (fun K hK => ?_)
              go_simp
              refine (uall_any HOk2.out HS.one).mono ?_
              rintro e y2 ⟨ub, ud, rfl, qr, HX⟩
              have HS2 := HS.ext HX
              clear HX
              try go_simp
              refine hK.out _ _ ⟨HS2, ?_⟩
              clear hK K
              try simp only [Act.put, List.setIfInBounds_toArray, List.set_cons_zero, List.set_cons_succ]
              refine held_one (i := 4) (by kernel_rfl) rfl rfl (fun K hK => ?_)
              go_simp
              refine (rsame_any _ _ l2.length _ (by have := HOk2.out.few; omega) _ (own_lies qr) (own_lies HS2.row)).mono ?_
              rintro e y3 ⟨rfl, HX⟩
              have HS3 := HS2.ext HX
              clear HX
              try go_simp
              refine hK.out _ _ ⟨HS3, ?_⟩
              clear hK K
              try simp only [Act.put, List.setIfInBounds_toArray, List.set_cons_zero, List.set_cons_succ]
              refine held_take (i := 5) (v := ?vtc5) rfl (by kernel_rfl) (by kernel_rfl) (by kernel_rfl) (fun _ _ _ h => h) rfl ?hytc5 HS3 ?resttc5
              case hytc5 => (intro wx hSx; go_simp; try with_reducible rfl)
              try simp only [Act.put, List.setIfInBounds_toArray, List.set_cons_zero, List.set_cons_succ]
              refine held_take (i := 6) (v := ?vtc6) rfl (by kernel_rfl) (by kernel_rfl) (by kernel_rfl) (fun _ _ _ h => h) rfl ?hytc6 HS3 ?resttc6
              case hytc6 => (intro wx hSx; go_simp; try with_reducible rfl)
              try simp only [Act.put, List.setIfInBounds_toArray, List.set_cons_zero, List.set_cons_succ]
              refine held_take (i := 7) (v := ?vtc7) rfl (by kernel_rfl) (by kernel_rfl) (by kernel_rfl) (fun _ _ _ h => h) rfl ?hytc7 HS3 ?resttc7
              case hytc7 => (intro wx hSx; go_simp; try with_reducible rfl)
              try simp only [Act.put, List.setIfInBounds_toArray, List.set_cons_zero, List.set_cons_succ]
              refine held_take (i := 9) (v := ?vtc9) rfl (by kernel_rfl) (by kernel_rfl) (by kernel_rfl) (fun _ _ _ h => h) rfl ?hytc9 HS3 ?resttc9
              case hytc9 => (intro wx hSx; go_simp; try with_reducible rfl)
              try simp only [Act.put, List.setIfInBounds_toArray, List.set_cons_zero, List.set_cons_succ]
              refine held_take (i := 10) (v := ?vtc10) rfl (by kernel_rfl) (by kernel_rfl) (by kernel_rfl) (fun _ _ _ h => h) rfl ?hytc10 HS3 ?resttc10
              case hytc10 => (intro wx hSx; obtain ⟨z0, z1, z2, z3, z4, -⟩ := hSx.blk; go_simp; try with_reducible rfl)
              try simp only [Act.put, List.setIfInBounds_toArray, List.set_cons_zero, List.set_cons_succ]
              refine held_one (i := 8) (by kernel_rfl) rfl rfl (fun K hK => ?_)
              go_simp
              refine (usure_any HOk2.out HS3.one).mono ?_
              rintro e y4 ⟨rfl, HX⟩
              have HS4 := HS3.ext HX
              clear HX
              try go_simp
              refine hK.out _ _ ⟨HS4, ?_⟩
              clear hK K
              try simp only [Act.put, List.setIfInBounds_toArray, List.set_cons_zero, List.set_cons_succ]
              refine held_take (i := 11) (v := ?vtc11) rfl (by kernel_rfl) (by kernel_rfl) (by kernel_rfl) (fun _ _ _ h => h) rfl ?hytc11 HS4 ?resttc11
              case hytc11 => (intro wx hSx; go_simp; try with_reducible rfl)
              try simp only [Act.put, List.setIfInBounds_toArray, List.set_cons_zero, List.set_cons_succ]
              refine held_take (i := 12) (v := ?vtc12) rfl (by kernel_rfl) (by kernel_rfl) (by kernel_rfl) (fun _ _ _ h => h) rfl ?hytc12 HS4 ?resttc12
              case hytc12 => (intro wx hSx; go_simp; try with_reducible rfl)
              try simp only [Act.put, List.setIfInBounds_toArray, List.set_cons_zero, List.set_cons_succ]
              refine wpAnyH_done (by kernel_rfl) ?_ _
              refine NoPanic.normal ?_
              have HPn : Hid (∃ (a' : Option Addr) (c' : Nat), PlV w (.pointer (some da)) g (wPl k x K (j + 1)).1 (wPl k x K (j + 1)).2 (.slice a' (wPl k x K (j + 1)).1.length c') (wPl k x K (j + 1)).1 (wPl k x K (j + 1)).2 y4) := by
                rw [HNx.out]
                obtain ⟨a', c', e⟩ := liesT_len (own_lies HS4.row)
                exact ⟨a', c', e ▸ HS4⟩
              clear HS4
              go_wp2
              go_roundw
              case rel => exact ⟨j + 1, hlt, by push_cast; rfl, HPn⟩
              case measure => exact lp_meas hlt
      · have hnl : ¬ (j : Int) < (n : Int) := by omega
        obtain ⟨ua, uc, HPr⟩ := HPq.out
        have HE9 : Hid (Ext w wr) := HPr.old
        clear HPr HPq
        go_wp2_with fail
        refine (awake_any _).mono ?_
        rintro e w4 ⟨rfl, HX⟩
        have HE4 : Hid (Ext w w4) := HE9.out.trans HX
        clear HX
        go_wp2
        go_ret
        exact ⟨rfl, HE4.out⟩
end Go.Proofs.Ytbkdjpialjbhnaa
