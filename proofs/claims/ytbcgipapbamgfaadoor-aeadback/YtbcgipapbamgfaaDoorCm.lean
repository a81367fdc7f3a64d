/-
  chacha.mix, called.
-/
import Derived.Test.YtbcgipapbamgfaaDoorCParts
import Derived.Test.YtbcgipapbamgfaaDoorUntils
import Derived.Deep.QuietTactic
import Derived.BigQuiet
namespace Go.Proofs.YtbcgipapbamgfaaDoor
open Go.RowKit
/-- What mix holds: the state in block m, the answer's block behind it. -/
def MX (w wr : World) (m : Nat) (l : List Nat) : Prop := RowH wr m 54 .u32 16 (gf l) ∧ RowH wr (m + 1) 54 .u32 16 (fun _ => 0) ∧ Ext w wr ∧ Gl wr ∧ w.heap.size ≤ m
theorem MX.ext {w wr w2 : World} {m : Nat} {l : List Nat} (h : MX w wr m l) (hx : Ext wr w2) : MX w w2 m l := ⟨h.1.ext hx, h.2.1.ext hx, h.2.2.1.trans hx, h.2.2.2.1.ext hx, h.2.2.2.2⟩
set_option maxHeartbeats 4000000 in
theorem mix_any (l0 : List Nat) (hl0 : W16 l0) (w : World) (hG : Gl w) :
    Calls Tryd.prog 57 #[.agg (lst .u32 (gf l0) 16).toArray] w fun e w' => e = .returned (.agg (lst .u32 (gf (rnd l0 10)) 16).toArray) ∧ Ext w w' := by
  have HN : SizeLe w w.heap.size := Nat.le_refl _
  obtain ⟨W0, HW0⟩ : ∃ W0, Hid ((w.alloc (Obj.cells (lst IntKind.u32 (gf l0) 16).toArray 54)).alloc (Obj.cells #[.int .u32 0, .int .u32 0, .int .u32 0, .int .u32 0, .int .u32 0, .int .u32 0, .int .u32 0, .int .u32 0, .int .u32 0, .int .u32 0, .int .u32 0, .int .u32 0, .int .u32 0, .int .u32 0, .int .u32 0, .int .u32 0] 54) = W0) := ⟨_, rfl⟩
  have HE0 : Ext w W0 := by rw [← HW0.out]; exact ((Ext.refl _).alloc _).alloc _
  have HR0 : RowH W0 w.heap.size 54 .u32 16 (gf l0) := by
    rw [← HW0.out]
    unfold RowH
    rw [heap_alloc_old _ _ (by simp), heap_alloc_new]
  have HZ0 : RowH W0 (w.heap.size + 1) 54 .u32 16 (fun _ => 0) := by
    rw [← HW0.out]
    have := RowH.new (w.alloc (Obj.cells (lst IntKind.u32 (gf l0) 16).toArray 54)) .u32 16 54
    rwa [show (w.alloc (Obj.cells (lst IntKind.u32 (gf l0) 16).toArray 54)).heap.size = w.heap.size + 1 by simp] at this
  have HM0 : Hid (MX w W0 w.heap.size (rnd l0 0)) := ⟨HR0, HZ0, HE0, hG.ext HE0, HN⟩
  clear HE0 HR0 HZ0
  go_enter Tryd.func57, Tryd.ntmps57
  go_wp2_with fail
  rw [HW0.out]
  clear HW0
  generalize hm : w.heap.size = m at *
  clear hm
  go_loopw [9] (fun u9 wr => ∃ (k : Nat), k ≤ 10 ∧ u9 = .int .i64 k ∧ Hid (MX w wr m (rnd l0 k))) (fun u9 _ => 10 - (intOf u9).toNat)
  case atStart => exact ⟨0, by omega, rfl, HM0⟩
  case round =>
    clear HM0
    obtain ⟨k, hk10, rfl, HM⟩ := hrel
    by_cases hkl : k < 10
    · have hk1 : (k : Int) < 10 := by omega
      obtain ⟨qt, qfr, hq⟩ := HM.out.2.2.2.1
      go_wp2_with (first | (refine wpList_load_row rfl 113 _ rfl 0 rfl qt (lst .i64 qf 32).toArray qfr _ hq Tryd.underlying113 rfl (by rw [Tryd.size113]; simp [lst_len]) ?_))
      clear hq
      go_loopw [12] (fun u12 wr => ∃ (j : Nat), j ≤ 8 ∧ u12 = .int .i64 j ∧ Hid (MX w wr m (rows (rnd l0 k) j))) (fun u12 _ => 8 - (intOf u12).toNat)
      case atStart => exact ⟨0, by omega, rfl, HM⟩
      case round =>
        clear HM
        obtain ⟨j, hj8, rfl, HM⟩ := hrel
        by_cases hjl : j < 8
        · have hj1 : (j : Int) < 8 := by omega
          have hj0 : (0 : Int) ≤ (j : Int) := by omega
          have hix := idx_row j hjl wr
          have HZ : RowH (wr.alloc (Obj.cells #[.int .i64 0, .int .i64 0, .int .i64 0, .int .i64 0] 112)) wr.heap.size 112 .i64 4 (fun _ => 0) := RowH.new wr .i64 4 112
          go_wp2_with (first | (refine wpList_store_row rfl 112 _ _ rfl wr.heap.size (lst .i64 (qrow j) 4).toArray rfl rfl 112 _ HZ (by rw [Tryd.size112]; simp [lst_len]) (by simp [lst_len]) (lst_one _ _ _) ?_))
          have HM1 : Hid (MX w ((wr.alloc (Obj.cells #[.int .i64 0, .int .i64 0, .int .i64 0, .int .i64 0] 112)).setRow wr.heap.size (lst .i64 (qrow j) 4).toArray) m (rows (rnd l0 k) j)) := HM.out.ext (((Ext.refl wr).alloc _).row (Nat.le_refl _) _)
          have HT : RowH ((wr.alloc (Obj.cells #[.int .i64 0, .int .i64 0, .int .i64 0, .int .i64 0] 112)).setRow wr.heap.size (lst .i64 (qrow j) 4).toArray) wr.heap.size 112 .i64 4 (qrow j) := HZ.row _
          generalize (wr.alloc (Obj.cells #[.int .i64 0, .int .i64 0, .int .i64 0, .int .i64 0] 112)).setRow wr.heap.size (lst .i64 (qrow j) 4).toArray = W1 at *
          generalize wr.heap.size = g at *
          clear HM HZ hix
          obtain ⟨⟨la, lb, lc, ld⟩, nab, nac, nad, nbc, nbd, ncd⟩ := qat_ok j hjl
          have t0 := (HT.tab.2 0 (by decide)).1
          have t1 := (HT.tab.2 1 (by decide)).1
          have t2 := (HT.tab.2 2 (by decide)).1
          have t3 := (HT.tab.2 3 (by decide)).1
          have HRn : Hid (rows (rnd l0 k) (j + 1) = quart (rows (rnd l0 k) j) (qat j 0) (qat j 1) (qat j 2) (qat j 3)) := rfl
          have hlW : W16 (rows (rnd l0 k) j) := rows_ok (rnd_ok hl0 k) j
          unfold qrow at t0 t1 t2 t3
          obtain ⟨lN, HLN⟩ : ∃ lN, Hid (rows (rnd l0 k) (j + 1) = lN) := ⟨_, rfl⟩
          rw [HLN.out] at HRn
          generalize rows (rnd l0 k) j = l at *
          generalize qat j 0 = a at *
          generalize qat j 1 = b at *
          generalize qat j 2 = c at *
          generalize qat j 3 = d at *
          clear HT
          have HQp := quart_put hlW la lb lc ld nab nac nad nbc nbd ncd
          rw [← HRn.out] at HQp
          have HC : Hid (∀ W, Calls Tryd.prog 69 #[.int .u32 (gf l a : Int), .int .u32 (gf l b : Int), .int .u32 (gf l c : Int), .int .u32 (gf l d : Int)] W fun e w' => e = .returned (.tuple #[.int .u32 ((q4 (gf l a) (gf l b) (gf l c) (gf l d)).1 : Int), .int .u32 ((q4 (gf l a) (gf l b) (gf l c) (gf l d)).2.1 : Int), .int .u32 ((q4 (gf l a) (gf l b) (gf l c) (gf l d)).2.2.1 : Int), .int .u32 ((q4 (gf l a) (gf l b) (gf l c) (gf l d)).2.2.2 : Int)]) ∧ w' = W) := fun W => cquarter_any _ _ _ _ (hlW.lt a) (hlW.lt b) (hlW.lt c) (hlW.lt d) W
          generalize q4 (gf l a) (gf l b) (gf l c) (gf l d) = qq at *
          obtain ⟨A, B, C, D⟩ := qq
          dsimp only at HQp HC
          go_quiet (fail)
          have HM2 : Hid (MX w (W1.drewN nq) m l) := HM1.out.ext ((Ext.refl _).drewN nq)
          go_wp2_with fail
          clear t0 t1 t2 t3 HM1
          generalize W1.drewN nq = W2 at *
          have HM3 : Hid (MX w W2.drew m l) := HM2.out.ext (Ext.drew (Ext.refl _))
          clear HM2
          refine wp_region_noPanic ?_
          refine wp_region_any (by kernel_rfl) ?_
          rw [show ({ W2 with drawn := W2.drawn + 1 } : World) = W2.drew from rfl]
          generalize W2.drew = W3 at *
          have a0 : (0 : Int) ≤ (a : Int) := by omega
          have a1 : (a : Int) < 16 := by omega
          have ac := (HM3.out.1.tab.2 a la).1
          have b0 : (0 : Int) ≤ (b : Int) := by omega
          have b1 : (b : Int) < 16 := by omega
          have bc := (HM3.out.1.tab.2 b lb).1
          have c0 : (0 : Int) ≤ (c : Int) := by omega
          have c1 : (c : Int) < 16 := by omega
          have cc := (HM3.out.1.tab.2 c lc).1
          have d0 : (0 : Int) ≤ (d : Int) := by omega
          have d1 : (d : Int) < 16 := by omega
          have dc := (HM3.out.1.tab.2 d ld).1
          generalize gf l a = va at ac HC
          generalize gf l b = vb at bc HC
          generalize gf l c = vc at cc HC
          generalize gf l d = vd at dc HC
          refine any_take (i := 0) (v := ?v0) rfl (by kernel_rfl) (by kernel_rfl) (by kernel_rfl) (fun _ _ _ h => h) rfl ?hy0 ?rest0
          case hy0 => (intro w; go_simp; try with_reducible rfl)
          try simp only [Act.put, List.setIfInBounds_toArray, List.set_cons_zero, List.set_cons_succ]
          refine any_take (i := 1) (v := ?v1) rfl (by kernel_rfl) (by kernel_rfl) (by kernel_rfl) (fun _ _ _ h => h) rfl ?hy1 ?rest1
          case hy1 => (intro w; go_simp; try with_reducible rfl)
          try simp only [Act.put, List.setIfInBounds_toArray, List.set_cons_zero, List.set_cons_succ]
          refine any_take (i := 2) (v := ?v2) rfl (by kernel_rfl) (by kernel_rfl) (by kernel_rfl) (fun _ _ _ h => h) rfl ?hy2 ?rest2
          case hy2 => (intro w; go_simp; try with_reducible rfl)
          try simp only [Act.put, List.setIfInBounds_toArray, List.set_cons_zero, List.set_cons_succ]
          refine any_take (i := 3) (v := ?v3) rfl (by kernel_rfl) (by kernel_rfl) (by kernel_rfl) (fun _ _ _ h => h) rfl ?hy3 ?rest3
          case hy3 => (intro w; go_simp; try with_reducible rfl)
          try simp only [Act.put, List.setIfInBounds_toArray, List.set_cons_zero, List.set_cons_succ]
          refine any_take (i := 4) (v := ?v4) rfl (by kernel_rfl) (by kernel_rfl) (by kernel_rfl) (fun _ _ _ h => h) rfl ?hy4 ?rest4
          case hy4 => (intro w; go_simp; try with_reducible rfl)
          try simp only [Act.put, List.setIfInBounds_toArray, List.set_cons_zero, List.set_cons_succ]
          refine any_take (i := 5) (v := ?v5) rfl (by kernel_rfl) (by kernel_rfl) (by kernel_rfl) (fun _ _ _ h => h) rfl ?hy5 ?rest5
          case hy5 => (intro w; go_simp; try with_reducible rfl)
          try simp only [Act.put, List.setIfInBounds_toArray, List.set_cons_zero, List.set_cons_succ]
          refine any_take (i := 7) (v := ?v7) rfl (by kernel_rfl) (by kernel_rfl) (by kernel_rfl) (fun _ _ _ h => h) rfl ?hy7 ?rest7
          case hy7 => (intro w; go_simp; try with_reducible rfl)
          try simp only [Act.put, List.setIfInBounds_toArray, List.set_cons_zero, List.set_cons_succ]
          refine any_take (i := 8) (v := ?v8) rfl (by kernel_rfl) (by kernel_rfl) (by kernel_rfl) (fun _ _ _ h => h) rfl ?hy8 ?rest8
          case hy8 => (intro w; go_simp; try with_reducible rfl)
          try simp only [Act.put, List.setIfInBounds_toArray, List.set_cons_zero, List.set_cons_succ]
          refine any_take (i := 10) (v := ?v10) rfl (by kernel_rfl) (by kernel_rfl) (by kernel_rfl) (fun _ _ _ h => h) rfl ?hy10 ?rest10
          case hy10 => (intro w; go_simp; try with_reducible rfl)
          try simp only [Act.put, List.setIfInBounds_toArray, List.set_cons_zero, List.set_cons_succ]
          refine any_take (i := 11) (v := ?v11) rfl (by kernel_rfl) (by kernel_rfl) (by kernel_rfl) (fun _ _ _ h => h) rfl ?hy11 ?rest11
          case hy11 => (intro w; go_simp; try with_reducible rfl)
          try simp only [Act.put, List.setIfInBounds_toArray, List.set_cons_zero, List.set_cons_succ]
          refine any_take (i := 13) (v := ?v13) rfl (by kernel_rfl) (by kernel_rfl) (by kernel_rfl) (fun _ _ _ h => h) rfl ?hy13 ?rest13
          case hy13 => (intro w; go_simp; try with_reducible rfl)
          try simp only [Act.put, List.setIfInBounds_toArray, List.set_cons_zero, List.set_cons_succ]
          refine any_take (i := 14) (v := ?v14) rfl (by kernel_rfl) (by kernel_rfl) (by kernel_rfl) (fun _ _ _ h => h) rfl ?hy14 ?rest14
          case hy14 => (intro w; go_simp; try with_reducible rfl)
          try simp only [Act.put, List.setIfInBounds_toArray, List.set_cons_zero, List.set_cons_succ]
          refine wpAny_of_until (S := fun wx => wx = W3) (X := 16) _ _ _ _ ?_
          refine till_take [16, 17, 18, 19, 20, 21, 22, 23, 24, 25, 26, 27, 28, 29] (i := 6) (v := ?v6) rfl (by kernel_rfl) (by kernel_rfl) (by kernel_rfl) (by kernel_rfl) (by kernel_rfl) (by kernel_rfl) (fun _ _ _ h => h) rfl ?hy6 rfl ?rest6
          case hy6 => (rintro _ rfl; go_simp; try with_reducible rfl)
          try simp only [Act.put, List.setIfInBounds_toArray, List.set_cons_zero, List.set_cons_succ]
          refine till_take [16, 17, 18, 19, 20, 21, 22, 23, 24, 25, 26, 27, 28, 29] (i := 9) (v := ?v9) rfl (by kernel_rfl) (by kernel_rfl) (by kernel_rfl) (by kernel_rfl) (by kernel_rfl) (by kernel_rfl) (fun _ _ _ h => h) rfl ?hy9 rfl ?rest9
          case hy9 => (rintro _ rfl; go_simp; try with_reducible rfl)
          try simp only [Act.put, List.setIfInBounds_toArray, List.set_cons_zero, List.set_cons_succ]
          refine till_take [16, 17, 18, 19, 20, 21, 22, 23, 24, 25, 26, 27, 28, 29] (i := 12) (v := ?v12) rfl (by kernel_rfl) (by kernel_rfl) (by kernel_rfl) (by kernel_rfl) (by kernel_rfl) (by kernel_rfl) (fun _ _ _ h => h) rfl ?hy12 rfl ?rest12
          case hy12 => (rintro _ rfl; go_simp; try with_reducible rfl)
          try simp only [Act.put, List.setIfInBounds_toArray, List.set_cons_zero, List.set_cons_succ]
          refine till_take [16, 17, 18, 19, 20, 21, 22, 23, 24, 25, 26, 27, 28, 29] (i := 15) (v := ?v15) rfl (by kernel_rfl) (by kernel_rfl) (by kernel_rfl) (by kernel_rfl) (by kernel_rfl) (by kernel_rfl) (fun _ _ _ h => h) rfl ?hy15 rfl ?rest15
          case hy15 => (rintro _ rfl; go_simp; try with_reducible rfl)
          try simp only [Act.put, List.setIfInBounds_toArray, List.set_cons_zero, List.set_cons_succ]
          refine till_stop (by kernel_rfl) ?_
          refine any_one (i := 16) (by kernel_rfl) rfl rfl (fun K hK => ?_)
          go_simp
          refine (HC.out _).mono ?_
          rintro e w9 ⟨rfl, hw9⟩
          obtain rfl : W3 = w9 := hw9.symm
          go_simp
          refine hK.out _ _ ?_
          clear hK K HC ac bc cc dc
          try simp only [Act.put, List.setIfInBounds_toArray, List.set_cons_zero, List.set_cons_succ]
          refine any_take (i := 17) (v := ?v17) rfl (by kernel_rfl) (by kernel_rfl) (by kernel_rfl) (fun _ _ _ h => h) rfl ?hy17 ?rest17
          case hy17 => (intro w; go_simp; try with_reducible rfl)
          try simp only [Act.put, List.setIfInBounds_toArray, List.set_cons_zero, List.set_cons_succ]
          refine any_take (i := 18) (v := ?v18) rfl (by kernel_rfl) (by kernel_rfl) (by kernel_rfl) (fun _ _ _ h => h) rfl ?hy18 ?rest18
          case hy18 => (intro w; go_simp; try with_reducible rfl)
          try simp only [Act.put, List.setIfInBounds_toArray, List.set_cons_zero, List.set_cons_succ]
          refine any_take (i := 19) (v := ?v19) rfl (by kernel_rfl) (by kernel_rfl) (by kernel_rfl) (fun _ _ _ h => h) rfl ?hy19 ?rest19
          case hy19 => (intro w; go_simp; try with_reducible rfl)
          try simp only [Act.put, List.setIfInBounds_toArray, List.set_cons_zero, List.set_cons_succ]
          refine any_take (i := 20) (v := ?v20) rfl (by kernel_rfl) (by kernel_rfl) (by kernel_rfl) (fun _ _ _ h => h) rfl ?hy20 ?rest20
          case hy20 => (intro w; go_simp; try with_reducible rfl)
          try simp only [Act.put, List.setIfInBounds_toArray, List.set_cons_zero, List.set_cons_succ]
          refine any_take (i := 21) (v := ?v21) rfl (by kernel_rfl) (by kernel_rfl) (by kernel_rfl) (fun _ _ _ h => h) rfl ?hy21 ?rest21
          case hy21 => (intro w; go_simp; try with_reducible rfl)
          try simp only [Act.put, List.setIfInBounds_toArray, List.set_cons_zero, List.set_cons_succ]
          refine any_take (i := 22) (v := ?v22) rfl (by kernel_rfl) (by kernel_rfl) (by kernel_rfl) (fun _ _ _ h => h) rfl ?hy22 ?rest22
          case hy22 => (intro w; go_simp; try with_reducible rfl)
          try simp only [Act.put, List.setIfInBounds_toArray, List.set_cons_zero, List.set_cons_succ]
          have hM3 := HM3.out
          have hR0 := hM3.1
          have fa := (hR0.tab.2 a la).2
          have ga := (hR0.tab.2 a la).1
          refine any_one (i := 23) (by kernel_rfl) rfl rfl (fun K hK => ?_)
          go_simp
          skip
          refine hK.out _ _ ?_
          clear hK K fa ga
          try simp only [Act.put, List.setIfInBounds_toArray, List.set_cons_zero, List.set_cons_succ]
          have hR1 := hR0.set a A
          have hZ1 := RowH.other (v := .int .u32 (A : Int)) (i := a) (by omega : m + 1 ≠ m) hM3.2.1 ⟨_, _, _, hR0⟩
          have hE1 := Ext.st (i := a) (v := .int .u32 (A : Int)) HN hM3.2.2.1
          refine any_take (i := 24) (v := ?v24) rfl (by kernel_rfl) (by kernel_rfl) (by kernel_rfl) (fun _ _ _ h => h) rfl ?hy24 ?rest24
          case hy24 => (intro w; go_simp; try with_reducible rfl)
          try simp only [Act.put, List.setIfInBounds_toArray, List.set_cons_zero, List.set_cons_succ]
          have fb := (hR1.tab.2 b lb).2
          have gb := (hR1.tab.2 b lb).1
          refine any_one (i := 25) (by kernel_rfl) rfl rfl (fun K hK => ?_)
          go_simp
          skip
          refine hK.out _ _ ?_
          clear hK K fb gb
          try simp only [Act.put, List.setIfInBounds_toArray, List.set_cons_zero, List.set_cons_succ]
          have hR2 := hR1.set b B
          have hZ2 := RowH.other (v := .int .u32 (B : Int)) (i := b) (by omega : m + 1 ≠ m) hZ1 ⟨_, _, _, hR1⟩
          have hE2 := Ext.st (i := b) (v := .int .u32 (B : Int)) HN hE1
          refine any_take (i := 26) (v := ?v26) rfl (by kernel_rfl) (by kernel_rfl) (by kernel_rfl) (fun _ _ _ h => h) rfl ?hy26 ?rest26
          case hy26 => (intro w; go_simp; try with_reducible rfl)
          try simp only [Act.put, List.setIfInBounds_toArray, List.set_cons_zero, List.set_cons_succ]
          have fc := (hR2.tab.2 c lc).2
          have gc := (hR2.tab.2 c lc).1
          refine any_one (i := 27) (by kernel_rfl) rfl rfl (fun K hK => ?_)
          go_simp
          skip
          refine hK.out _ _ ?_
          clear hK K fc gc
          try simp only [Act.put, List.setIfInBounds_toArray, List.set_cons_zero, List.set_cons_succ]
          have hR3 := hR2.set c C
          have hZ3 := RowH.other (v := .int .u32 (C : Int)) (i := c) (by omega : m + 1 ≠ m) hZ2 ⟨_, _, _, hR2⟩
          have hE3 := Ext.st (i := c) (v := .int .u32 (C : Int)) HN hE2
          refine any_take (i := 28) (v := ?v28) rfl (by kernel_rfl) (by kernel_rfl) (by kernel_rfl) (fun _ _ _ h => h) rfl ?hy28 ?rest28
          case hy28 => (intro w; go_simp; try with_reducible rfl)
          try simp only [Act.put, List.setIfInBounds_toArray, List.set_cons_zero, List.set_cons_succ]
          have fd := (hR3.tab.2 d ld).2
          have gd := (hR3.tab.2 d ld).1
          refine any_one (i := 29) (by kernel_rfl) rfl rfl (fun K hK => ?_)
          go_simp
          skip
          refine hK.out _ _ ?_
          clear hK K fd gd
          try simp only [Act.put, List.setIfInBounds_toArray, List.set_cons_zero, List.set_cons_succ]
          have hR4 := hR3.set d D
          have hZ4 := RowH.other (v := .int .u32 (D : Int)) (i := d) (by omega : m + 1 ≠ m) hZ3 ⟨_, _, _, hR3⟩
          have hE4 := Ext.st (i := d) (v := .int .u32 (D : Int)) HN hE3
          rw [← HQp] at hR4
          have HM4 : Hid (MX w ((((W3.setCell ⟨m, a, none⟩ (.int .u32 (A : Int))).setCell ⟨m, b, none⟩ (.int .u32 (B : Int))).setCell ⟨m, c, none⟩ (.int .u32 (C : Int))).setCell ⟨m, d, none⟩ (.int .u32 (D : Int))) m lN) := ⟨hR4, hZ4, hE4, hG.ext hE4, HN⟩
          refine wpAny_done (by kernel_rfl) ?_ _
          refine NoPanic.normal ?_
          generalize (((W3.setCell ⟨m, a, none⟩ (.int .u32 (A : Int))).setCell ⟨m, b, none⟩ (.int .u32 (B : Int))).setCell ⟨m, c, none⟩ (.int .u32 (C : Int))).setCell ⟨m, d, none⟩ (.int .u32 (D : Int)) = W4 at *
          clear hR1 hR2 hR3 hR4 hZ1 hZ2 hZ3 hZ4 hE1 hE2 hE3 hE4 hM3 hR0 HM3
          go_wp2_with fail
          go_roundw
          case rel => exact ⟨j + 1, hjl, by go_num, by rw [HLN.out]; exact HM4⟩
          case measure => simp [intOf]; omega
        · have HJ8 : Hid (j = 8) := (by omega : j = 8)
          have hnl8 : ¬ (j : Int) < 8 := by omega
          rw [HJ8.out, rows_eight] at HM
          go_wp2
          go_roundw
          case rel => exact ⟨k + 1, hkl, by go_num, HM⟩
          case measure => simp [intOf]; omega
    · have HK10 : Hid (k = 10) := (by omega : k = 10)
      have hnl10 : ¬ (k : Int) < 10 := by omega
      rw [HK10.out] at HM
      have HRa := HM.out.1
      have HRz := HM.out.2.1
      have HE := Ext.row HM.out.2.2.1 (b := m + 1) (Nat.le_succ_of_le HN) (lst .u32 (gf (rnd l0 10)) 16).toArray
      have HRr := HRz.row (gf (rnd l0 10))
      go_wp2_with (first | (refine wpList_load_row rfl 54 _ rfl m rfl 54 (lst .u32 (gf (rnd l0 10)) 16).toArray (0, 0) _ HRa Tryd.underlying54 rfl (by rw [Tryd.size54]; simp [lst_len]) ?_) | (refine wpList_store_row rfl 54 _ _ rfl (m + 1) (lst .u32 (gf (rnd l0 10)) 16).toArray rfl rfl 54 _ HRz (by rw [Tryd.size54]; simp [lst_len]) (by simp [lst_len]) (lst_one _ _ _) ?_))
      refine bodyPost_ret (v := .agg (lst .u32 (gf (rnd l0 10)) 16).toArray) (results_cell_row Tryd.results57 _ _ (m + 1) 54 _ (0, 0) _ rfl HRr Tryd.underlying54 rfl (by rw [Tryd.size54]; simp [lst_len])) rfl ⟨rfl, HE⟩
end Go.Proofs.YtbcgipapbamgfaaDoor
