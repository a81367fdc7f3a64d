/-
  (*cast.Cast).Take, called: a voice, one way (v3).
-/
import Derived.Test.YtmibekclhnkhnaaCf
namespace Go.Proofs.Ytmibekclhnkhnaa
open Go.RowKit
set_option maxHeartbeats 2000000 in
theorem ctake_v3 {N T F : Nat} {s : St} {G : Nat → Prop} {v : Value} (m : Msg) (hN : N ≤ 7) (hT : hasQ N T) (hl : s.L.length ≤ 900) (hc : ctsB N F s.L m = true) (hk : m.kd ≠ 1) (htb : s.tb = none) (hR : s.rb.isSome = false) (hr2 : 2 * T < cnt (s.L ++ [m]) 3 m.bd) (he : cnt (s.L ++ [m]) 2 m.bd < qm N T) (hr1 : ¬ cnt (s.L ++ [m]) 3 m.bd ≤ T) (w : World) (h : CAt w v N T F s G) :
    Calls Try.prog 17 #[v, mv3 m] w fun e w' => TkP N T F s m v G w e w' := by
  have HA : Hid (CAt w v N T F s G) := h
  obtain ⟨K, p, e1, e2, k1, k4, p1, p8, hbd⟩ := cts_nums hN hc
  obtain ⟨kd, fr, bd⟩ := m
  replace e1 : kd = (K : Int) := e1
  replace e2 : fr = (p : Int) := e2
  replace hbd : bd.size ≤ 4096 := hbd
  subst e1 e2
  replace hk : (K : Int) ≠ 1 := hk
  obtain ⟨b, mv, rfl, hb, hm, rfl⟩ := h
  have d1 : ((K : Int) == 1) = false := by simpa using hk
  have k0 : (0 : Int) ≤ (K : Int) := by omega
  have k5 : (K : Int) < 4 := by omega
  have HC : Hid (∀ W, Ext w W → Calls Try.prog 22 #[.pointer (some ⟨b, 0, none⟩), mv3 ⟨(K : Int), (p : Int), bd⟩] W fun e w' => e = .returned (.bool true) ∧ Ext W w') := fun W hW => by
    have := counts_any ⟨(K : Int), (p : Int), bd⟩ hN W (HA.out.ext hW)
    rw [hc] at this
    exact this
  have HE : Hid (Ext w w) := Ext.refl w
  have HTn : Hid (TS b w.heap.size (cg N T F s mv) ⟨(K : Int), (p : Int), bd⟩ (w.alloc (.cells #[.int .i64 (K : Int), .int .i64 (p : Int), .string bd] 38))) := TS.new ⟨(K : Int), (p : Int), bd⟩ hb
  have HH : Hid (∀ W, Blk W b 39 (cg N T F s mv) → W.cell? ⟨b, 3 + K * 8 + p, none⟩ = some (.bool false)) := fun W hW => by
    have q := cg_heard N T F s mv (by omega : K < 4) p8
    have hh : hrd s.L (K : Int) (p : Int) = false := cts_new hc
    rw [show ((K : Nat) : Int) = (K : Int) from rfl, hh, show 3 + K * 8 + p = 3 + K * 8 + p from by omega] at q
    exact (hW.2 (3 + K * 8 + p) (by omega)).1.trans (congrArg some q)
  have HPut : Hid (∀ W, TS b w.heap.size (cg N T F s mv) ⟨(K : Int), (p : Int), bd⟩ W → TS b w.heap.size (cg N T F ⟨s.L ++ [⟨(K : Int), (p : Int), bd⟩], s.rb, s.tb⟩ mv) ⟨(K : Int), (p : Int), bd⟩ (W.setCell ⟨b, 3 + K * 8 + p, none⟩ (.bool true))) := fun W hW => by
    have hbx : w.heap.size ≠ b := by have := hb.1; omega
    have k := hW.keep (w' := W.setCell ⟨b, 3 + K * 8 + p, none⟩ (.bool true)) (by simp)
    refine ⟨(hW.1.put (i := 3 + K * 8 + p) (by omega) (.bool true)).congr fun j hj => ?_, ?_, ?_, ?_, by simpa using hW.2.2.2.2⟩
    · have := cg_put (N := N) (T := T) (F := F) (s := s) (mv := mv) (m := ⟨(K : Int), (p : Int), bd⟩) (by omega : K < 4) p8 rfl rfl hj
      rw [show 3 + K * 8 + p = 3 + K * 8 + p from by omega] at this
      exact this
    · rw [World.cell?_setCell_other _ _ _ _ (fun q => hbx (by first | exact congrArg Addr.block q | exact (congrArg Addr.block q).symm))]; exact hW.2.1
    · rw [World.cell?_setCell_other _ _ _ _ (fun q => hbx (by first | exact congrArg Addr.block q | exact (congrArg Addr.block q).symm))]; exact hW.2.2.1
    · rw [World.cell?_setCell_other _ _ _ _ (fun q => hbx (by first | exact congrArg Addr.block q | exact (congrArg Addr.block q).symm))]; exact hW.2.2.2.1
  have q0 : (0 : Int) ≤ (p : Int) := by omega
  have q8 : (p : Int) < 8 := by omega
  obtain ⟨bm, hmv, hne, hv⟩ : ∃ bm, mv = some bm ∧ bm ≠ b ∧ Vo w bm s.L.length (vof s.L) := by
    rcases hm with q | q
    · rw [htb] at q; cases q.1
    · exact q.2
  have HB0 : Hid (bm < w.heap.size) := hv.lt
  have HBx : Hid (w.heap.size ≠ b) := by show _ ≠ _; have := hb.1; omega
  have HBw : Hid (b < w.heap.size) := hb.1
  have hS : stp N T F s ⟨(K : Int), (p : Int), bd⟩ = (⟨s.L ++ [(⟨(K : Int), (p : Int), bd⟩ : Msg)], some bd, some bd⟩, [⟨3, 0, bd⟩]) := by
    rw [stp_voice hc hk]
    have e1 : rdyB N T s ⟨(K : Int), (p : Int), bd⟩ = true := by unfold rdyB; rw [hR, decide_eq_true (p := T < _) (by omega), Bool.or_true]; rfl
    have e2 : tldB T s ⟨(K : Int), (p : Int), bd⟩ = true := by unfold tldB; rw [htb, decide_eq_true hr2]; rfl
    rw [e1, e2]
    rfl
  have HP : Hid (∀ W u W2, Chg (fun k => k = b ∨ mv = some k) w W → Blk W b 39 (cg N T F ⟨s.L ++ [(⟨(K : Int), (p : Int), bd⟩ : Msg)], some bd, some bd⟩ (none)) → Ext W W2 → W2.ownsRow W.heap.size 38 3 u 1 (mcs [⟨3, 0, bd⟩]) → TkP N T F s ⟨(K : Int), (p : Int), bd⟩ (.pointer (some ⟨b, 0, none⟩)) (fun k => k = b ∨ mv = some k) w (.returned u) W2) := fun W u W2 hg hB hx ho => tk_of hS hB (.inl ⟨rfl, rfl⟩) (fun k q => (by cases q)) hg hx ho
  obtain ⟨cE, hcE⟩ : ∃ cE, cnt (s.L ++ [(⟨(K : Int), (p : Int), bd⟩ : Msg)]) 2 bd = cE := ⟨_, rfl⟩
  obtain ⟨cR, hcR⟩ : ∃ cR, cnt (s.L ++ [(⟨(K : Int), (p : Int), bd⟩ : Msg)]) 3 bd = cR := ⟨_, rfl⟩
  have HCt : Hid (∀ W, Blk W b 39 (cg N T F ⟨s.L ++ [(⟨(K : Int), (p : Int), bd⟩ : Msg)], s.rb, s.tb⟩ mv) → Vo W bm s.L.length (vof s.L) → Calls Try.prog 24 #[.pointer (some ⟨b, 0, none⟩), .int .i64 (K : Int), .string bd] W fun e w' => e = .returned (.tuple #[.int .i64 (cE : Int), .int .i64 (cR : Int)]) ∧ Vo w' bm (s.L ++ [(⟨(K : Int), (p : Int), bd⟩ : Msg)]).length (vof (s.L ++ [(⟨(K : Int), (p : Int), bd⟩ : Msg)])) ∧ Chg (fun x => x = bm) W w') := fun W h1 h2 => by
    rw [hmv] at h1
    have q := count_any (K : Int) bd (wf_small (by omega)) hbd (by omega) (Nat.le_trans (vof_le s.L _ _) (by omega)) W h1 hne h2
    have e : bump (vof s.L) (K : Int) bd = vof (s.L ++ [(⟨(K : Int), (p : Int), bd⟩ : Msg)]) := vof_voice (m := ⟨(K : Int), (p : Int), bd⟩) hk
    rw [e, vof_two, vof_three, hcE, hcR, show s.L.length + 1 = (s.L ++ [(⟨(K : Int), (p : Int), bd⟩ : Msg)]).length from by simp] at q
    exact q
  have HV : Hid (Vo w bm s.L.length (vof s.L)) := hv
  have HQ : Hid (∀ W, Calls Try.prog 8 #[.int .i64 (N : Int), .int .i64 (T : Int)] W fun e w' => e = .returned (.int .i64 (qm N T : Int)) ∧ w' = W) := fun W => by
    have := quorum_any N T W
    rw [qI_nat hT] at this
    exact this
  replace hr2 : 2 * T < cR := by rw [← hcR]; exact hr2
  replace he : cE < qm N T := by rw [← hcE]; exact he
  replace hr1 : ¬ cR ≤ T := by rw [← hcR]; exact hr1
  have HNe : Hid (bm ≠ b) := hne
  have HMv : Hid (mv = some bm) := hmv
  have g2 : IntKind.i64.wrap (2 * (T : Int)) = 2 * (T : Int) := by rw [IntKind.wrap_i64]; obtain ⟨a1, a2, _⟩ := hT; omega
  have g3 : decide (2 * (T : Int) < (cR : Int)) = true := decide_eq_true (by omega)
  generalize qm N T = Q at *
  have g4 : decide ((cE : Int) < (Q : Int)) = true := decide_eq_true (by omega)
  have g4b : decide (cE < Q) = true := decide_eq_true (by omega)
  have g5 : decide ((cR : Int) ≤ (T : Int)) = false := decide_eq_false (by omega)
  have g5b : decide (cR ≤ T) = false := decide_eq_false (by omega)
  have HTb : Hid (s.tb = none) := htb
  have HRb : Hid (s.rb.isSome = false) := hR
  clear hc HA hm hb k1 k4 hT hl hk hS hcE hcR hv hne htb hR hr2 hmv he hr1
  go_enter Try.func17, Try.ntmps17
  go_wp2_with fail
  refine (HC.out _ (HE.out.alloc _)).mono ?_
  rintro e w1 ⟨rfl, HX⟩
  have HS : TS b w.heap.size (cg N T F s mv) ⟨(K : Int), (p : Int), bd⟩ w1 := HTn.out.ext HX
  have HX1 : Hid (Ext w w1) := (HE.out.alloc _).trans HX
  clear HX HC HTn
  obtain ⟨hb1, b0, b1, b2, hlt⟩ := HS
  have hcc : w1.cell? ⟨b, 3 + K * 8 + p, none⟩ = some (.bool false) := HH.out w1 hb1
  have hzz := (hb1.2 (3 + K * 8 + p) (by omega)).2
  have hll := hb1.1
  have HT0 : Hid (TS b w.heap.size (cg N T F s mv) ⟨(K : Int), (p : Int), bd⟩ w1) := ⟨hb1, b0, b1, b2, hlt⟩
  clear hb1 b2
  go_wp2_with fail
  go_region
  have HT1 : Hid (TS b w.heap.size (cg N T F ⟨s.L ++ [⟨(K : Int), (p : Int), bd⟩], s.rb, s.tb⟩ mv) ⟨(K : Int), (p : Int), bd⟩ (w1.setCell ⟨b, 3 + K * 8 + p, none⟩ (.bool true)).drew) := (HPut.out w1 HT0.out).ext (Ext.refl _).drew
  have HG1 : Hid (Chg (fun x => x = b) w (w1.setCell ⟨b, 3 + K * 8 + p, none⟩ (.bool true)).drew) := (Chg.st (F := fun x => x = b) (.inl rfl) (Chg.of_ext _ HX1.out)).drew
  clear b0 b1 hlt hcc hzz hll HT0 HX1 HH HPut
  generalize (w1.setCell ⟨b, 3 + K * 8 + p, none⟩ (.bool true)).drew = W1 at *
  obtain ⟨t0, t1, t2, t3, t4⟩ := HT1.out
  have HV1 : Hid (Vo W1 bm s.L.length (vof s.L)) := HV.out.keep (HG1.out.block bm HB0.out HNe.out)
  have c37 : W1.cell? ⟨b, 37, none⟩ = some (.bool false) := (t0.2 37 (by decide)).1.trans (congrArg (fun z : Option ByteArray => some (Value.bool z.isSome)) HTb.out)
  have hbl := t0.1
  clear t0
  go_wp2_with fail
  refine (HCt.out _ HT1.out.1 HV1.out).mono ?_
  rintro e w5 ⟨rfl, HV5x, HG5x⟩
  have HV5 : Hid (Vo w5 bm (s.L ++ [(⟨(K : Int), (p : Int), bd⟩ : Msg)]).length (vof (s.L ++ [(⟨(K : Int), (p : Int), bd⟩ : Msg)]))) := HV5x
  have HT5 : Hid (TS b w.heap.size (cg N T F ⟨s.L ++ [(⟨(K : Int), (p : Int), bd⟩ : Msg)], s.rb, s.tb⟩ mv) ⟨(K : Int), (p : Int), bd⟩ w5) := HT1.out.keep HG5x.size (HG5x.block b hbl (fun q => HNe.out q.symm)) (HG5x.block w.heap.size t4 (fun q => by have := HB0.out; omega))
  have HG5 : Hid (Chg (fun k => k = b ∨ mv = some k) w w5) := (HG1.out.weaken (fun k q => .inl q)).trans (HG5x.weaken (G := fun k => k = b ∨ mv = some k) (fun k q => .inr (by rw [q]; exact HMv.out))) (Sub.refl _ _)
  clear HV5x HG5x HCt HV1 HT1 HG1 c37 t1 t2 t3 t4 hbl HV
  obtain ⟨t0, t1, t2, t3, t4⟩ := HT5.out
  have c1 : w5.cell? ⟨b, 1, none⟩ = some (.int .i64 (T : Int)) := (t0.2 1 (by decide)).1
  have hbl := t0.1
  clear t0
  go_wp2_with fail
  refine (tell_any (s := ⟨s.L ++ [(⟨(K : Int), (p : Int), bd⟩ : Msg)], s.rb, s.tb⟩) bd hbd _ HT5.out.1 HTb.out).mono ?_
  rintro e w6 ⟨rfl, HB6x, HG6x⟩
  have HT6 : Hid (TS b w.heap.size (cg N T F ⟨s.L ++ [(⟨(K : Int), (p : Int), bd⟩ : Msg)], s.rb, some bd⟩ none) ⟨(K : Int), (p : Int), bd⟩ w6) := by
    have hbx : w.heap.size ≠ b := by have := HBw.out; omega
    have e := HG6x.block w.heap.size t4 hbx
    exact ⟨HB6x, (World.cell?_of_block (a := ⟨w.heap.size, 0, none⟩) e).trans t1, (World.cell?_of_block (a := ⟨w.heap.size, 1, none⟩) e).trans t2, (World.cell?_of_block (a := ⟨w.heap.size, 2, none⟩) e).trans t3, Nat.lt_of_lt_of_le t4 HG6x.size⟩
  have HG6 : Hid (Chg (fun k => k = b ∨ mv = some k) w w6) := HG5.out.trans (HG6x.weaken (G := fun k => k = b ∨ mv = some k) (fun k q => .inl q)) (Sub.refl _ _)
  clear HB6x HG6x HT5 HG5 HV5 c1 hbl t1 t2 t3 t4
  have HS : TS b w.heap.size (cg N T F ⟨s.L ++ [(⟨(K : Int), (p : Int), bd⟩ : Msg)], s.rb, some bd⟩ none) ⟨(K : Int), (p : Int), bd⟩ w6.drew := HT6.out.ext (Ext.refl w6).drew
  have HX7 : Hid (Ext w6 w6.drew) := (Ext.refl w6).drew
  go_wp2_with fail
  refine wp_region_noPanic ?_
  refine wp_region_held (S := TS b w.heap.size (cg N T F ⟨s.L ++ [(⟨(K : Int), (p : Int), bd⟩ : Msg)], s.rb, some bd⟩ none) ⟨(K : Int), (p : Int), bd⟩) (by kernel_rfl) ?_
  rw [show ({ w6 with drawn := w6.drawn + 1 } : World) = w6.drew from rfl]
  generalize w6.drew = y0 at *
  refine held_take (i := 0) (v := ?vr0) rfl (by kernel_rfl) (by kernel_rfl) (by kernel_rfl) (fun _ _ _ h => h) rfl ?hyr0 HS ?restr0
  case hyr0 => (intro wx hSx; go_simp; try with_reducible rfl)
  try simp only [Act.put, List.setIfInBounds_toArray, List.set_cons_zero, List.set_cons_succ]
  refine held_take (i := 1) (v := ?vr1) rfl (by kernel_rfl) (by kernel_rfl) (by kernel_rfl) (fun _ _ _ h => h) rfl ?hyr1 HS ?restr1
  case hyr1 => (intro wx hSx; go_simp; try with_reducible rfl)
  try simp only [Act.put, List.setIfInBounds_toArray, List.set_cons_zero, List.set_cons_succ]
  refine held_take (i := 2) (v := ?vr2) rfl (by kernel_rfl) (by kernel_rfl) (by kernel_rfl) (fun _ _ _ h => h) rfl ?hyr2 HS ?restr2
  case hyr2 => (intro wx hSx; go_simp; try with_reducible rfl)
  try simp only [Act.put, List.setIfInBounds_toArray, List.set_cons_zero, List.set_cons_succ]
  refine held_take (i := 3) (v := ?vr3) rfl (by kernel_rfl) (by kernel_rfl) (by kernel_rfl) (fun _ _ _ h => h) rfl ?hyr3 HS ?restr3
  case hyr3 => (intro wx hSx; obtain ⟨z0, z1, z2, z3, z4⟩ := hSx; have hbl := z0.1; have c0 : wx.cell? ⟨b, 0, none⟩ = some (.int .i64 (N : Int)) := (z0.2 0 (by decide)).1; have c1 : wx.cell? ⟨b, 1, none⟩ = some (.int .i64 (T : Int)) := (z0.2 1 (by decide)).1; have c36 : wx.cell? ⟨b, 36, none⟩ = some (.bool false) := (z0.2 36 (by decide)).1.trans (congrArg (fun z => some (Value.bool z)) HRb.out); clear z0; go_simp; try with_reducible rfl)
  try simp only [Act.put, List.setIfInBounds_toArray, List.set_cons_zero, List.set_cons_succ]
  refine held_take (i := 4) (v := ?vr4) rfl (by kernel_rfl) (by kernel_rfl) (by kernel_rfl) (fun _ _ _ h => h) rfl ?hyr4 HS ?restr4
  case hyr4 => (intro wx hSx; go_simp; try with_reducible rfl)
  try simp only [Act.put, List.setIfInBounds_toArray, List.set_cons_zero, List.set_cons_succ]
  refine held_take (i := 5) (v := ?vr5) rfl (by kernel_rfl) (by kernel_rfl) (by kernel_rfl) (fun _ _ _ h => h) rfl ?hyr5 HS ?restr5
  case hyr5 => (intro wx hSx; go_simp; try with_reducible rfl)
  try simp only [Act.put, List.setIfInBounds_toArray, List.set_cons_zero, List.set_cons_succ]
  refine held_take (i := 6) (v := ?vr6) rfl (by kernel_rfl) (by kernel_rfl) (by kernel_rfl) (fun _ _ _ h => h) rfl ?hyr6 HS ?restr6
  case hyr6 => (intro wx hSx; go_simp; try with_reducible rfl)
  try simp only [Act.put, List.setIfInBounds_toArray, List.set_cons_zero, List.set_cons_succ]
  refine held_take (i := 7) (v := ?vr7) rfl (by kernel_rfl) (by kernel_rfl) (by kernel_rfl) (fun _ _ _ h => h) rfl ?hyr7 HS ?restr7
  case hyr7 => (intro wx hSx; go_simp; try with_reducible rfl)
  try simp only [Act.put, List.setIfInBounds_toArray, List.set_cons_zero, List.set_cons_succ]
  refine held_take (i := 8) (v := ?vr8) rfl (by kernel_rfl) (by kernel_rfl) (by kernel_rfl) (fun _ _ _ h => h) rfl ?hyr8 HS ?restr8
  case hyr8 => (intro wx hSx; go_simp; try with_reducible rfl)
  try simp only [Act.put, List.setIfInBounds_toArray, List.set_cons_zero, List.set_cons_succ]
  refine held_take (i := 9) (v := ?vr9) rfl (by kernel_rfl) (by kernel_rfl) (by kernel_rfl) (fun _ _ _ h => h) rfl ?hyr9 HS ?restr9
  case hyr9 => (intro wx hSx; obtain ⟨z0, z1, z2, z3, z4⟩ := hSx; have hbl := z0.1; have c0 : wx.cell? ⟨b, 0, none⟩ = some (.int .i64 (N : Int)) := (z0.2 0 (by decide)).1; have c1 : wx.cell? ⟨b, 1, none⟩ = some (.int .i64 (T : Int)) := (z0.2 1 (by decide)).1; have c36 : wx.cell? ⟨b, 36, none⟩ = some (.bool false) := (z0.2 36 (by decide)).1.trans (congrArg (fun z => some (Value.bool z)) HRb.out); clear z0; go_simp; try with_reducible rfl)
  try simp only [Act.put, List.setIfInBounds_toArray, List.set_cons_zero, List.set_cons_succ]
  refine held_take (i := 10) (v := ?vr10) rfl (by kernel_rfl) (by kernel_rfl) (by kernel_rfl) (fun _ _ _ h => h) rfl ?hyr10 HS ?restr10
  case hyr10 => (intro wx hSx; go_simp; try with_reducible rfl)
  try simp only [Act.put, List.setIfInBounds_toArray, List.set_cons_zero, List.set_cons_succ]
  refine held_take (i := 11) (v := ?vr11) rfl (by kernel_rfl) (by kernel_rfl) (by kernel_rfl) (fun _ _ _ h => h) rfl ?hyr11 HS ?restr11
  case hyr11 => (intro wx hSx; go_simp; try with_reducible rfl)
  try simp only [Act.put, List.setIfInBounds_toArray, List.set_cons_zero, List.set_cons_succ]
  refine held_take (i := 12) (v := ?vr12) rfl (by kernel_rfl) (by kernel_rfl) (by kernel_rfl) (fun _ _ _ h => h) rfl ?hyr12 HS ?restr12
  case hyr12 => (intro wx hSx; go_simp; try with_reducible rfl)
  try simp only [Act.put, List.setIfInBounds_toArray, List.set_cons_zero, List.set_cons_succ]
  refine held_take (i := 13) (v := ?vr13) rfl (by kernel_rfl) (by kernel_rfl) (by kernel_rfl) (fun _ _ _ h => h) rfl ?hyr13 HS ?restr13
  case hyr13 => (intro wx hSx; obtain ⟨z0, z1, z2, z3, z4⟩ := hSx; have hbl := z0.1; have c0 : wx.cell? ⟨b, 0, none⟩ = some (.int .i64 (N : Int)) := (z0.2 0 (by decide)).1; have c1 : wx.cell? ⟨b, 1, none⟩ = some (.int .i64 (T : Int)) := (z0.2 1 (by decide)).1; have c36 : wx.cell? ⟨b, 36, none⟩ = some (.bool false) := (z0.2 36 (by decide)).1.trans (congrArg (fun z => some (Value.bool z)) HRb.out); clear z0; go_simp; try with_reducible rfl)
  try simp only [Act.put, List.setIfInBounds_toArray, List.set_cons_zero, List.set_cons_succ]
  refine held_one (i := 14) (by kernel_rfl) rfl rfl (fun K hK => ?_)
  go_simp
  refine (HQ.out _).mono ?_
  rintro e y1 ⟨rfl, ew⟩
  subst y1
  try go_simp
  refine hK.out _ _ ⟨HS, ?_⟩
  clear hK K
  try simp only [Act.put, List.setIfInBounds_toArray, List.set_cons_zero, List.set_cons_succ]
  refine held_take (i := 15) (v := ?vr15) rfl (by kernel_rfl) (by kernel_rfl) (by kernel_rfl) (fun _ _ _ h => h) rfl ?hyr15 HS ?restr15
  case hyr15 => (intro wx hSx; go_simp; try with_reducible rfl)
  try simp only [Act.put, List.setIfInBounds_toArray, List.set_cons_zero, List.set_cons_succ]
  refine held_take (i := 16) (v := ?vr16) rfl (by kernel_rfl) (by kernel_rfl) (by kernel_rfl) (fun _ _ _ h => h) rfl ?hyr16 HS ?restr16
  case hyr16 => (intro wx hSx; go_simp; try with_reducible rfl)
  try simp only [Act.put, List.setIfInBounds_toArray, List.set_cons_zero, List.set_cons_succ]
  refine held_take (i := 17) (v := ?vr17) rfl (by kernel_rfl) (by kernel_rfl) (by kernel_rfl) (fun _ _ _ h => h) rfl ?hyr17 HS ?restr17
  case hyr17 => (intro wx hSx; go_simp; try with_reducible rfl)
  try simp only [Act.put, List.setIfInBounds_toArray, List.set_cons_zero, List.set_cons_succ]
  refine held_take (i := 18) (v := ?vr18) rfl (by kernel_rfl) (by kernel_rfl) (by kernel_rfl) (fun _ _ _ h => h) rfl ?hyr18 HS ?restr18
  case hyr18 => (intro wx hSx; go_simp; try with_reducible rfl)
  try simp only [Act.put, List.setIfInBounds_toArray, List.set_cons_zero, List.set_cons_succ]
  refine held_take (i := 19) (v := ?vr19) rfl (by kernel_rfl) (by kernel_rfl) (by kernel_rfl) (fun _ _ _ h => h) rfl ?hyr19 HS ?restr19
  case hyr19 => (intro wx hSx; go_simp; try with_reducible rfl)
  try simp only [Act.put, List.setIfInBounds_toArray, List.set_cons_zero, List.set_cons_succ]
  refine held_take (i := 20) (v := ?vr20) rfl (by kernel_rfl) (by kernel_rfl) (by kernel_rfl) (fun _ _ _ h => h) rfl ?hyr20 HS ?restr20
  case hyr20 => (intro wx hSx; go_simp; try with_reducible rfl)
  try simp only [Act.put, List.setIfInBounds_toArray, List.set_cons_zero, List.set_cons_succ]
  refine held_take (i := 21) (v := ?vr21) rfl (by kernel_rfl) (by kernel_rfl) (by kernel_rfl) (fun _ _ _ h => h) rfl ?hyr21 HS ?restr21
  case hyr21 => (intro wx hSx; obtain ⟨z0, z1, z2, z3, z4⟩ := hSx; have hbl := z0.1; have c0 : wx.cell? ⟨b, 0, none⟩ = some (.int .i64 (N : Int)) := (z0.2 0 (by decide)).1; have c1 : wx.cell? ⟨b, 1, none⟩ = some (.int .i64 (T : Int)) := (z0.2 1 (by decide)).1; have c36 : wx.cell? ⟨b, 36, none⟩ = some (.bool false) := (z0.2 36 (by decide)).1.trans (congrArg (fun z => some (Value.bool z)) HRb.out); clear z0; go_simp; try with_reducible rfl)
  try simp only [Act.put, List.setIfInBounds_toArray, List.set_cons_zero, List.set_cons_succ]
  refine held_take (i := 22) (v := ?vr22) rfl (by kernel_rfl) (by kernel_rfl) (by kernel_rfl) (fun _ _ _ h => h) rfl ?hyr22 HS ?restr22
  case hyr22 => (intro wx hSx; go_simp; try with_reducible rfl)
  try simp only [Act.put, List.setIfInBounds_toArray, List.set_cons_zero, List.set_cons_succ]
  refine held_take (i := 23) (v := ?vr23) rfl (by kernel_rfl) (by kernel_rfl) (by kernel_rfl) (fun _ _ _ h => h) rfl ?hyr23 HS ?restr23
  case hyr23 => (intro wx hSx; go_simp; try with_reducible rfl)
  try simp only [Act.put, List.setIfInBounds_toArray, List.set_cons_zero, List.set_cons_succ]
  refine held_take (i := 24) (v := ?vr24) rfl (by kernel_rfl) (by kernel_rfl) (by kernel_rfl) (fun _ _ _ h => h) rfl ?hyr24 HS ?restr24
  case hyr24 => (intro wx hSx; go_simp; try with_reducible rfl)
  try simp only [Act.put, List.setIfInBounds_toArray, List.set_cons_zero, List.set_cons_succ]
  refine wpAnyH_done (by kernel_rfl) ?_ _
  refine NoPanic.normal ?_
  obtain ⟨z0, z1, z2, z3, z4⟩ := HS
  have hbl := z0.1
  have c36 : y0.cell? ⟨b, 36, none⟩ = some (.bool false) := (z0.2 36 (by decide)).1.trans (congrArg (fun z => some (Value.bool z)) HRb.out)
  have f36 := (z0.2 36 (by decide)).2
  have z5 : (y0.setCell ⟨b, 36, none⟩ (.bool true)).cell? ⟨w.heap.size, 2, none⟩ = some (.string bd) := by
    rw [World.cell?_setCell_other _ _ _ _ (fun q => HBx.out (by first | exact congrArg Addr.block q | exact (congrArg Addr.block q).symm))]; exact z3
  have HBk : Hid (Blk (y0.setCell ⟨b, 36, none⟩ (.bool true)) b 39 (cg N T F ⟨s.L ++ [(⟨(K : Int), (p : Int), bd⟩ : Msg)], some bd, some bd⟩ (none))) := (z0.put (i := 36) (by decide) (.bool true)).congr fun j _ => cg_ready rfl
  have HGk : Hid (Chg (fun k => k = b ∨ mv = some k) w (y0.setCell ⟨b, 36, none⟩ (.bool true))) := Chg.st (.inl (.inl rfl)) (HG6.out.thenExt HX7.out)
  clear z0
  go_wp2_with fail
  generalize y0.setCell ⟨b, 36, none⟩ (.bool true) = y2 at *
  refine (say_any 3 bd hbd _).mono ?_
  rintro e w8 ⟨g, rfl, ho, HX⟩
  have HZ : Hid (TkP N T F s ⟨(K : Int), (p : Int), bd⟩ (.pointer (some ⟨b, 0, none⟩)) (fun k => k = b ∨ mv = some k) w (.returned (.slice (some ⟨g, 0, none⟩) 1 1)) w8) := HP.out _ _ w8 HGk.out HBk.out HX ho
  clear HX ho z1 z2 z3 z4 z5 c36 f36 hbl HP HBk HGk
  go_wp2
  go_ret
  exact HZ.out
end Go.Proofs.Ytmibekclhnkhnaa
