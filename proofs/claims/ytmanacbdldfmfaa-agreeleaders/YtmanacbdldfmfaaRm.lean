/-
 sandglassref21.Most, called.
-/
import Derived.Test.YtmanacbdldfmfaaRv
namespace Go.Proofs.Ytmanacbdldfmfaa
set_option maxRecDepth 10000
open Go.RowKit
/-- The cells of votes that are handed in, in whatever world behind. -/
theorem rbox {N T : Nat} {a : Option Addr} {n cap : Nat} {w W : World} (hW : Ext (w.alloc (.cells #[.int .i64 (N : Int), .int .i64 (T : Int), .slice a n cap] 32)) W) : W.cell? ⟨w.heap.size, 0, none⟩ = some (.int .i64 (N : Int)) ∧ W.cell? ⟨w.heap.size, 1, none⟩ = some (.int .i64 (T : Int)) ∧ W.cell? ⟨w.heap.size, 2, none⟩ = some (.slice a n cap) ∧ w.heap.size < W.heap.size :=
 ⟨later hW (by rw [World.cell?_alloc_at _ _ _ _ rfl]; rfl), later hW (by rw [World.cell?_alloc_at _ _ _ _ rfl]; rfl), later hW (by rw [World.cell?_alloc_at _ _ _ _ rfl]; rfl), by have := hW.size; simp at this; omega⟩
set_option maxRecDepth 10000 in
set_option maxHeartbeats 4000000 in
theorem rmost_any {N T : Nat} (hQ : hasQ N T) (a : Option Addr) (cap : Nat) (L : List Vt) (k r : Int) (hn : L.length ≤ 1000) (w : World) (hL : WsIs w (.slice a L.length cap) L) :
  Calls Try.prog 58 #[rV N T (.slice a L.length cap), .int .i64 k, .int .i64 r] w fun e w' => MostR N T L k r w e w' := by
 have HL : Hid (WsIs w (.slice a L.length cap) L) := hL
 obtain ⟨n, HN⟩ : ∃ n, Hid (L.length = n) := ⟨_, rfl⟩
 have HCt : Hid (∀ W B, Ext w W → Calls Try.prog 64 #[rV N T (.slice a n cap), .int .i64 k, .int .i64 r, .string B] W fun e w' => e = .returned (.int .i64 (cntV L k r B : Int)) ∧ Ext W w') := fun W B hW => by
  have := rcount_any N T a cap L k r B hn W (hL.ext hW)
  rw [HN.out] at this
  exact this
 have HQm : Hid (∀ W, Calls Try.prog 38 #[.int .i64 (N : Int), .int .i64 (T : Int)] W fun e w' => e = .returned (.int .i64 (qmV N T : Int)) ∧ Ext W w') := fun W => by
  refine (rquorum_any N T W).mono ?_
  rintro e w' ⟨rfl, rfl⟩
  exact ⟨by rw [qI_nat hQ], Ext.refl _⟩
 rw [HN.out] at HL ⊢
 have HE0 : Hid (Ext w (w.alloc (.cells #[.int .i64 (N : Int), .int .i64 (T : Int), .slice a n cap] 32))) := (Ext.refl w).alloc _
 have HBx : Hid (∀ W, Ext (w.alloc (.cells #[.int .i64 (N : Int), .int .i64 (T : Int), .slice a n cap] 32)) W → W.cell? ⟨w.heap.size, 0, none⟩ = some (.int .i64 (N : Int)) ∧ W.cell? ⟨w.heap.size, 1, none⟩ = some (.int .i64 (T : Int)) ∧ W.cell? ⟨w.heap.size, 2, none⟩ = some (.slice a n cap) ∧ w.heap.size < W.heap.size) := fun W hW => rbox hW
 have Hq1 : Hid (1 ≤ qmV N T) := by show _ ≤ _; unfold qmV; omega
 clear hQ
 go_enter Try.func58, Try.ntmps58
 go_wp2
 obtain ⟨W0, hW0⟩ : ∃ W0, w.alloc (.cells #[.int .i64 (N : Int), .int .i64 (T : Int), .slice a n cap] 32) = W0 := ⟨_, rfl⟩
 rw [hW0] at HE0 HBx ⊢
 have HW0 : Hid (Ext W0 W0) := Ext.refl W0
 clear hW0 hL
 go_loopw [8] (fun u8 wr => ∃ j : Nat, j ≤ n ∧ u8 = .int .i64 j ∧ Hid (Ext W0 wr) ∧ Hid (∀ i m, i < j → L[i]? = some m → m.kd = k → m.rd = r → cntV L k r m.vl < qmV N T)) (fun u8 _ => n - (intOf u8).toNat)
 case atStart => exact ⟨0, Nat.zero_le _, rfl, HW0, fun i p hi => absurd hi (Nat.not_lt_zero _)⟩
 case round =>
  obtain ⟨j, hj, rfl, HE, HNo⟩ := hrel
  obtain ⟨c0, c1, c2, hlt0⟩ := HBx.out _ HE.out
  by_cases hlt : j < n
  ·obtain ⟨q1, q0, qw⟩ := lp_nums j n hlt (by have := HN.out; omega)
   obtain ⟨m, hm⟩ : ∃ m, Hid (L[j]? = some m) := ⟨L[j]'(by rw [HN.out]; exact hlt), List.getElem?_eq_getElem _⟩
   have HL2 : WsIs wr (.slice a L.length cap) L := by rw [HN.out]; exact HL.out.ext (HE0.out.trans HE.out)
   obtain ⟨g, o, rfl, hbl, hd0, hd1, hd2, hd3, hd4⟩ := HL2.get hm.out
   clear HL2
   have HNx : Hid ((m.kd = k → m.rd = r → cntV L k r m.vl < qmV N T) → ∀ i p, i < j + 1 → L[i]? = some p → p.kd = k → p.rd = r → cntV L k r p.vl < qmV N T) := fun hh i p hi hp => by
    by_cases e : i = j
    ·subst e
     rw [hm.out] at hp
     injection hp with hp
     rw [← hp]
     exact hh
    ·exact HNo.out i p (by omega) hp
   have HE2 : Hid (Ext W0 (wr.alloc (.cells #[.int .i64 m.kd, .int .i64 m.fr, .int .i64 m.rd, .int .i64 m.va, .string m.vl] 39))) := HE.out.alloc _
   by_cases hk : m.kd = k
   ·by_cases hr : m.rd = r
    ·have hkb : (m.kd == k) = true := by simpa using hk
     have hrb : (m.rd == r) = true := by simpa using hr
     have HK : Hid (m.kd = k ∧ m.rd = r) := ⟨hk, hr⟩
     clear hk hr
     go_upto_region 5 with fail
     clear hd0 hd1 hd2 hd3 hd4 hbl c0 c1 c2 hlt0
     have z0 : Hid (∀ W, Ext (wr.alloc (.cells #[.int .i64 m.kd, .int .i64 m.fr, .int .i64 m.rd, .int .i64 m.va, .string m.vl] 39)) W → W.cell? ⟨wr.heap.size, 0, none⟩ = some (.int .i64 m.kd) ∧ W.cell? ⟨wr.heap.size, 2, none⟩ = some (.int .i64 m.rd) ∧ W.cell? ⟨wr.heap.size, 4, none⟩ = some (.string m.vl) ∧ wr.heap.size < W.heap.size) := fun W hW => ⟨later hW (by rw [World.cell?_alloc_at _ _ _ _ rfl]; rfl), later hW (by rw [World.cell?_alloc_at _ _ _ _ rfl]; rfl), later hW (by rw [World.cell?_alloc_at _ _ _ _ rfl]; rfl), by have := hW.size; simp at this; omega⟩
     generalize wr.alloc (.cells #[.int .i64 m.kd, .int .i64 m.fr, .int .i64 m.rd, .int .i64 m.va, .string m.vl] 39) = W2 at *
     generalize wr.heap.size = s at *
     have HS : Ext W2 W2.drew := (Ext.refl W2).drew
     by_cases hq : (qmV N T : Int) ≤ (cntV L k r m.vl : Int)
     ·refine wp_region_noPanic ?_
      refine wp_region_held (S := Ext W2) (by kernel_rfl) ?_
      rw [show ({ W2 with drawn := W2.drawn + 1 } : World) = W2.drew from rfl]
      refine takeH (i := 0) (v := ?va0) ?hya0 HS ?resta0
      case hya0 => (intro wx hSx; go_simp; try with_reducible rfl)
      try simp only [sx]
      refine takeH (i := 1) (v := ?va1) ?hya1 HS ?resta1
      case hya1 => (intro wx hSx; obtain ⟨q1, q2, q3, q4⟩ := z0.out _ hSx; go_simp; try with_reducible rfl)
      try simp only [sx]
      refine takeH (i := 2) (v := ?va2) ?hya2 HS ?resta2
      case hya2 => (intro wx hSx; go_simp; try with_reducible rfl)
      try simp only [sx]
      refine takeH (i := 3) (v := ?va3) ?hya3 HS ?resta3
      case hya3 => (intro wx hSx; go_simp; try with_reducible rfl)
      try simp only [sx]
      refine takeH (i := 4) (v := ?va4) ?hya4 HS ?resta4
      case hya4 => (intro wx hSx; go_simp; try with_reducible rfl)
      try simp only [sx]
      refine takeH (i := 5) (v := ?va5) ?hya5 HS ?resta5
      case hya5 => (intro wx hSx; go_simp; try with_reducible rfl)
      try simp only [sx]
      refine takeH (i := 6) (v := ?va6) ?hya6 HS ?resta6
      case hya6 => (intro wx hSx; obtain ⟨q1, q2, q3, q4⟩ := z0.out _ hSx; go_simp; try with_reducible rfl)
      try simp only [sx]
      refine takeH (i := 7) (v := ?va7) ?hya7 HS ?resta7
      case hya7 => (intro wx hSx; go_simp; try with_reducible rfl)
      try simp only [sx]
      refine takeH (i := 8) (v := ?va8) ?hya8 HS ?resta8
      case hya8 => (intro wx hSx; go_simp; try with_reducible rfl)
      try simp only [sx]
      refine takeH (i := 9) (v := ?va9) ?hya9 HS ?resta9
      case hya9 => (intro wx hSx; go_simp; try with_reducible rfl)
      try simp only [sx]
      refine takeH (i := 10) (v := ?va10) ?hya10 HS ?resta10
      case hya10 => (intro wx hSx; go_simp; try with_reducible rfl)
      try simp only [sx]
      refine takeH (i := 11) (v := ?va11) ?hya11 HS ?resta11
      case hya11 => (intro wx hSx; obtain ⟨q1, q2, q3, q4⟩ := HBx.out _ (HE2.out.trans hSx); go_simp; try with_reducible rfl)
      try simp only [sx]
      refine takeH (i := 12) (v := ?va12) ?hya12 HS ?resta12
      case hya12 => (intro wx hSx; go_simp; try with_reducible rfl)
      try simp only [sx]
      refine takeH (i := 13) (v := ?va13) ?hya13 HS ?resta13
      case hya13 => (intro wx hSx; go_simp; try with_reducible rfl)
      try simp only [sx]
      refine takeH (i := 14) (v := ?va14) ?hya14 HS ?resta14
      case hya14 => (intro wx hSx; go_simp; try with_reducible rfl)
      try simp only [sx]
      refine takeH (i := 15) (v := ?va15) ?hya15 HS ?resta15
      case hya15 => (intro wx hSx; obtain ⟨q1, q2, q3, q4⟩ := z0.out _ hSx; go_simp; try with_reducible rfl)
      try simp only [sx]
      refine takeH (i := 17) (v := ?va17) ?hya17 HS ?resta17
      case hya17 => (intro wx hSx; go_simp; try with_reducible rfl)
      try simp only [sx]
      refine takeH (i := 18) (v := ?va18) ?hya18 HS ?resta18
      case hya18 => (intro wx hSx; obtain ⟨q1, q2, q3, q4⟩ := HBx.out _ (HE2.out.trans hSx); go_simp; try with_reducible rfl)
      try simp only [sx]
      refine takeH (i := 19) (v := ?va19) ?hya19 HS ?resta19
      case hya19 => (intro wx hSx; go_simp; try with_reducible rfl)
      try simp only [sx]
      refine takeH (i := 20) (v := ?va20) ?hya20 HS ?resta20
      case hya20 => (intro wx hSx; obtain ⟨q1, q2, q3, q4⟩ := HBx.out _ (HE2.out.trans hSx); go_simp; try with_reducible rfl)
      try simp only [sx]
      refine held_one (i := 16) (by kernel_rfl) rfl rfl (fun K hK => ?_)
      go_simp
      refine (HCt.out _ m.vl ((HE0.out.trans HE2.out).trans HS)).mono ?_
      rintro e x1 ⟨rfl, HX⟩
      have H1 := HS.trans HX
      clear HX
      try go_simp
      refine hK.out _ _ ⟨H1, ?_⟩
      clear hK K
      try simp only [sx]
      refine held_one (i := 21) (by kernel_rfl) rfl rfl (fun K hK => ?_)
      go_simp
      refine (HQm.out _).mono ?_
      rintro e x2 ⟨rfl, HX⟩
      have H2 := H1.trans HX
      clear HX
      try go_simp
      refine hK.out _ _ ⟨H2, ?_⟩
      clear hK K
      try simp only [sx]
      refine takeH (i := 22) (v := ?va22) ?hya22 H2 ?resta22
      case hya22 => (intro wx hSx; go_simp; try with_reducible rfl)
      try simp only [sx]
      refine takeH (i := 23) (v := ?va23) ?hya23 H2 ?resta23
      case hya23 => (intro wx hSx; go_simp; try with_reducible rfl)
      try simp only [sx]
      refine wpAnyH_done (by kernel_rfl) ?_ _
      refine NoPanic.normal ?_
      have HSZ := H2
      have d4 := (z0.out _ HSZ).2.2
      obtain ⟨d5, d6⟩ := d4
      go_wp2
      refine bodyPost_ret (v := .tuple #[.string m.vl, .bool true]) (by simp [results, Try.results58, go_sem]) rfl ⟨m.vl, true, rfl, .inl ⟨rfl, by omega⟩, (HE0.out.trans HE2.out).trans HSZ⟩
     ·refine wp_region_noPanic ?_
      refine wp_region_held (S := Ext W2) (by kernel_rfl) ?_
      rw [show ({ W2 with drawn := W2.drawn + 1 } : World) = W2.drew from rfl]
      refine takeH (i := 0) (v := ?vb0) ?hyb0 HS ?restb0
      case hyb0 => (intro wx hSx; go_simp; try with_reducible rfl)
      try simp only [sx]
      refine takeH (i := 1) (v := ?vb1) ?hyb1 HS ?restb1
      case hyb1 => (intro wx hSx; obtain ⟨q1, q2, q3, q4⟩ := z0.out _ hSx; go_simp; try with_reducible rfl)
      try simp only [sx]
      refine takeH (i := 2) (v := ?vb2) ?hyb2 HS ?restb2
      case hyb2 => (intro wx hSx; go_simp; try with_reducible rfl)
      try simp only [sx]
      refine takeH (i := 3) (v := ?vb3) ?hyb3 HS ?restb3
      case hyb3 => (intro wx hSx; go_simp; try with_reducible rfl)
      try simp only [sx]
      refine takeH (i := 4) (v := ?vb4) ?hyb4 HS ?restb4
      case hyb4 => (intro wx hSx; go_simp; try with_reducible rfl)
      try simp only [sx]
      refine takeH (i := 5) (v := ?vb5) ?hyb5 HS ?restb5
      case hyb5 => (intro wx hSx; go_simp; try with_reducible rfl)
      try simp only [sx]
      refine takeH (i := 6) (v := ?vb6) ?hyb6 HS ?restb6
      case hyb6 => (intro wx hSx; obtain ⟨q1, q2, q3, q4⟩ := z0.out _ hSx; go_simp; try with_reducible rfl)
      try simp only [sx]
      refine takeH (i := 7) (v := ?vb7) ?hyb7 HS ?restb7
      case hyb7 => (intro wx hSx; go_simp; try with_reducible rfl)
      try simp only [sx]
      refine takeH (i := 8) (v := ?vb8) ?hyb8 HS ?restb8
      case hyb8 => (intro wx hSx; go_simp; try with_reducible rfl)
      try simp only [sx]
      refine takeH (i := 9) (v := ?vb9) ?hyb9 HS ?restb9
      case hyb9 => (intro wx hSx; go_simp; try with_reducible rfl)
      try simp only [sx]
      refine takeH (i := 10) (v := ?vb10) ?hyb10 HS ?restb10
      case hyb10 => (intro wx hSx; go_simp; try with_reducible rfl)
      try simp only [sx]
      refine takeH (i := 11) (v := ?vb11) ?hyb11 HS ?restb11
      case hyb11 => (intro wx hSx; obtain ⟨q1, q2, q3, q4⟩ := HBx.out _ (HE2.out.trans hSx); go_simp; try with_reducible rfl)
      try simp only [sx]
      refine takeH (i := 12) (v := ?vb12) ?hyb12 HS ?restb12
      case hyb12 => (intro wx hSx; go_simp; try with_reducible rfl)
      try simp only [sx]
      refine takeH (i := 13) (v := ?vb13) ?hyb13 HS ?restb13
      case hyb13 => (intro wx hSx; go_simp; try with_reducible rfl)
      try simp only [sx]
      refine takeH (i := 14) (v := ?vb14) ?hyb14 HS ?restb14
      case hyb14 => (intro wx hSx; go_simp; try with_reducible rfl)
      try simp only [sx]
      refine takeH (i := 15) (v := ?vb15) ?hyb15 HS ?restb15
      case hyb15 => (intro wx hSx; obtain ⟨q1, q2, q3, q4⟩ := z0.out _ hSx; go_simp; try with_reducible rfl)
      try simp only [sx]
      refine takeH (i := 17) (v := ?vb17) ?hyb17 HS ?restb17
      case hyb17 => (intro wx hSx; go_simp; try with_reducible rfl)
      try simp only [sx]
      refine takeH (i := 18) (v := ?vb18) ?hyb18 HS ?restb18
      case hyb18 => (intro wx hSx; obtain ⟨q1, q2, q3, q4⟩ := HBx.out _ (HE2.out.trans hSx); go_simp; try with_reducible rfl)
      try simp only [sx]
      refine takeH (i := 19) (v := ?vb19) ?hyb19 HS ?restb19
      case hyb19 => (intro wx hSx; go_simp; try with_reducible rfl)
      try simp only [sx]
      refine takeH (i := 20) (v := ?vb20) ?hyb20 HS ?restb20
      case hyb20 => (intro wx hSx; obtain ⟨q1, q2, q3, q4⟩ := HBx.out _ (HE2.out.trans hSx); go_simp; try with_reducible rfl)
      try simp only [sx]
      refine held_one (i := 16) (by kernel_rfl) rfl rfl (fun K hK => ?_)
      go_simp
      refine (HCt.out _ m.vl ((HE0.out.trans HE2.out).trans HS)).mono ?_
      rintro e x1 ⟨rfl, HX⟩
      have H1 := HS.trans HX
      clear HX
      try go_simp
      refine hK.out _ _ ⟨H1, ?_⟩
      clear hK K
      try simp only [sx]
      refine held_one (i := 21) (by kernel_rfl) rfl rfl (fun K hK => ?_)
      go_simp
      refine (HQm.out _).mono ?_
      rintro e x2 ⟨rfl, HX⟩
      have H2 := H1.trans HX
      clear HX
      try go_simp
      refine hK.out _ _ ⟨H2, ?_⟩
      clear hK K
      try simp only [sx]
      refine takeH (i := 22) (v := ?vb22) ?hyb22 H2 ?restb22
      case hyb22 => (intro wx hSx; go_simp; try with_reducible rfl)
      try simp only [sx]
      refine takeH (i := 23) (v := ?vb23) ?hyb23 H2 ?restb23
      case hyb23 => (intro wx hSx; go_simp; try with_reducible rfl)
      try simp only [sx]
      refine wpAnyH_done (by kernel_rfl) ?_ _
      refine NoPanic.normal ?_
      have HSZ := H2
      have HNn : Hid (cntV L k r m.vl < qmV N T) := by show _ < _; omega
      clear hq
      go_wp2
      go_roundw
      case rel => exact ⟨j + 1, hlt, by push_cast; rfl, HE2.out.trans HSZ, HNx.out (fun _ _ => HNn.out)⟩
      case measure => exact lp_meas hlt
    ·have hrb : (m.rd == r) = false := by simpa using hr
     have hkb : (m.kd == k) = true := by simpa using hk
     have HNn : Hid (m.rd ≠ r) := hr
     clear hr hk
     go_wp2_with fail
     go_quiet (fail)
     go_wp2
     go_roundw
     case rel => exact ⟨j + 1, hlt, by push_cast; rfl, HE2.out.drewN _, HNx.out (fun _ e => absurd e HNn.out)⟩
     case measure => exact lp_meas hlt
   ·have hkb : (m.kd == k) = false := by simpa using hk
    have HNn : Hid (m.kd ≠ k) := hk
    clear hk
    go_wp2_with fail
    go_quiet (fail)
    go_wp2
    go_roundw
    case rel => exact ⟨j + 1, hlt, by push_cast; rfl, HE2.out.drewN _, HNx.out (fun e => absurd e HNn.out)⟩
    case measure => exact lp_meas hlt
  ·obtain rfl : j = n := by omega
   have hnl : ¬ (j : Int) < (j : Int) := by omega
   have H0 : Hid (∀ v, cntV L k r v < qmV N T) := fun v => by
    by_cases hv : 0 < cntV L k r v
    ·unfold cntV at hv
     obtain ⟨m, hm, q⟩ := List.countP_pos_iff.1 hv
     simp at q
     obtain ⟨i, hi, e⟩ := List.getElem_of_mem hm
     have := HNo.out i m (by rw [← HN.out]; exact hi) (by rw [List.getElem?_eq_getElem hi, e]) q.1 q.2.1
     rw [q.2.2] at this
     exact this
    ·have := Hq1.out
     omega
   go_wp2
   refine bodyPost_ret (v := .tuple #[.string ⟨#[]⟩, .bool false]) (by simp [results, Try.results58, go_sem]) rfl ⟨_, false, rfl, .inr ⟨rfl, rfl, H0.out⟩, HE0.out.trans HE.out⟩
end Go.Proofs.Ytmanacbdldfmfaa
