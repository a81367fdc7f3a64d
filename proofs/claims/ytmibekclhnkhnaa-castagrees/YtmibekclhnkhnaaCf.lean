/-
  (*cast.Cast).Take, called: a voice of a part that is told, or that is not told by it.
-/
import Derived.Test.YtmibekclhnkhnaaCe
namespace Go.Proofs.Ytmibekclhnkhnaa
open Go.RowKit
theorem vof_voice {L : List Msg} {m : Msg} (h : m.kd ≠ 1) : bump (vof L) m.kd m.bd = vof (L ++ [m]) := by
  funext j C
  unfold bump vof
  by_cases hj : j = 1
  · subst hj
    rw [if_neg (fun q => h q.1.symm), if_pos rfl]
    rw [if_pos rfl]
  · rw [if_neg hj, if_neg hj, if_neg h, cnt_snoc]
    by_cases e : j = m.kd ∧ C = m.bd
    · rw [if_pos e, if_pos ⟨e.1.symm, e.2.symm⟩, e.1, e.2]
    · rw [if_neg e, if_neg (fun q => e ⟨q.1.symm, q.2.symm⟩)]
      rfl
theorem vof_le (L : List Msg) (k : Int) (B : ByteArray) : vof L k B ≤ L.length := by
  unfold vof
  split
  · exact Nat.zero_le _
  · exact cnt_le L k B
theorem vof_two (L : List Msg) (B : ByteArray) : vof L 2 B = cnt L 2 B := rfl
theorem vof_three (L : List Msg) (B : ByteArray) : vof L 3 B = cnt L 3 B := rfl
theorem cg_ready {N T F : Nat} {L : List Msg} {rb rb' tb : Option ByteArray} {mv : Option Nat} (hr : rb'.isSome = true) {j : Nat} : (if j = 36 then Value.bool true else cg N T F ⟨L, rb, tb⟩ mv j) = cg N T F ⟨L, rb', tb⟩ mv j := by
  unfold cg
  by_cases e : j = 36
  · subst e; rw [if_pos rfl, hr]; rfl
  · rw [if_neg e]
    simp only [e, if_false]
set_option maxHeartbeats 2000000 in
theorem ctake_v0 {N T F : Nat} {s : St} {G : Nat → Prop} {v : Value} (m : Msg) (hN : N ≤ 7) (_hT : hasQ N T) (_hl : s.L.length ≤ 900) (hc : ctsB N F s.L m = true) (hk : m.kd ≠ 1) (htb : s.tb.isSome = true) (hrb : s.rb.isSome = true) (w : World) (h : CAt w v N T F s G) :
    Calls Try.prog 17 #[v, mv3 m] w fun e w' => TkP N T F s m v G w e w' := by
  have HA : Hid (CAt w v N T F s G) := h
  obtain ⟨K, p, e1, e2, k1, k4, p1, p8, hbd⟩ := cts_nums hN hc
  obtain ⟨kd, fr, bd⟩ := m
  replace e1 : kd = (K : Int) := e1
  replace e2 : fr = (p : Int) := e2
  replace hbd : bd.size ≤ 4096 := hbd
  subst e1 e2
  replace hk : (K : Int) ≠ 1 := hk
  obtain ⟨b, mv, rfl, hb, hm, rfl⟩ := h
  have d1 : ((K : Int) == 1) = false := by simpa using hk
  have k0 : (0 : Int) ≤ (K : Int) := by omega
  have k5 : (K : Int) < 4 := by omega
  have HC : Hid (∀ W, Ext w W → Calls Try.prog 22 #[.pointer (some ⟨b, 0, none⟩), mv3 ⟨(K : Int), (p : Int), bd⟩] W fun e w' => e = .returned (.bool true) ∧ Ext W w') := fun W hW => by
    have := counts_any ⟨(K : Int), (p : Int), bd⟩ hN W (HA.out.ext hW)
    rw [hc] at this
    exact this
  have HE : Hid (Ext w w) := Ext.refl w
  have HTn : Hid (TS b w.heap.size (cg N T F s mv) ⟨(K : Int), (p : Int), bd⟩ (w.alloc (.cells #[.int .i64 (K : Int), .int .i64 (p : Int), .string bd] 38))) := TS.new ⟨(K : Int), (p : Int), bd⟩ hb
  have HH : Hid (∀ W, Blk W b 39 (cg N T F s mv) → W.cell? ⟨b, 3 + K * 8 + p, none⟩ = some (.bool false)) := fun W hW => by
    have q := cg_heard N T F s mv (by omega : K < 4) p8
    have hh : hrd s.L (K : Int) (p : Int) = false := cts_new hc
    rw [show ((K : Nat) : Int) = (K : Int) from rfl, hh, show 3 + K * 8 + p = 3 + K * 8 + p from by omega] at q
    exact (hW.2 (3 + K * 8 + p) (by omega)).1.trans (congrArg some q)
  have HPut : Hid (∀ W, TS b w.heap.size (cg N T F s mv) ⟨(K : Int), (p : Int), bd⟩ W → TS b w.heap.size (cg N T F ⟨s.L ++ [⟨(K : Int), (p : Int), bd⟩], s.rb, s.tb⟩ mv) ⟨(K : Int), (p : Int), bd⟩ (W.setCell ⟨b, 3 + K * 8 + p, none⟩ (.bool true))) := fun W hW => by
    have hbx : w.heap.size ≠ b := by have := hb.1; omega
    have k := hW.keep (w' := W.setCell ⟨b, 3 + K * 8 + p, none⟩ (.bool true)) (by simp)
    refine ⟨(hW.1.put (i := 3 + K * 8 + p) (by omega) (.bool true)).congr fun j hj => ?_, ?_, ?_, ?_, by simpa using hW.2.2.2.2⟩
    · have := cg_put (N := N) (T := T) (F := F) (s := s) (mv := mv) (m := ⟨(K : Int), (p : Int), bd⟩) (by omega : K < 4) p8 rfl rfl hj
      rw [show 3 + K * 8 + p = 3 + K * 8 + p from by omega] at this
      exact this
    · rw [World.cell?_setCell_other _ _ _ _ (fun q => hbx (by first | exact congrArg Addr.block q | exact (congrArg Addr.block q).symm))]; exact hW.2.1
    · rw [World.cell?_setCell_other _ _ _ _ (fun q => hbx (by first | exact congrArg Addr.block q | exact (congrArg Addr.block q).symm))]; exact hW.2.2.1
    · rw [World.cell?_setCell_other _ _ _ _ (fun q => hbx (by first | exact congrArg Addr.block q | exact (congrArg Addr.block q).symm))]; exact hW.2.2.2.1
  have q0 : (0 : Int) ≤ (p : Int) := by omega
  have q8 : (p : Int) < 8 := by omega
  have hmv : mv = none := by
    rcases hm with q | q
    · exact q.2
    · rw [htb] at q; cases q.1
  have HP : Hid (∀ W, Chg (fun x => x = b) w W → Blk W b 39 (cg N T F ⟨s.L ++ [(⟨(K : Int), (p : Int), bd⟩ : Msg)], s.rb, s.tb⟩ mv) → TkP N T F s ⟨(K : Int), (p : Int), bd⟩ (.pointer (some ⟨b, 0, none⟩)) (fun k => k = b ∨ mv = some k) w (.returned (.slice none 0 0)) W) := fun W hg hB => by
    refine tk_of (s' := ⟨s.L ++ [(⟨(K : Int), (p : Int), bd⟩ : Msg)], s.rb, s.tb⟩) (out := []) ?_ hB (.inl ⟨htb, hmv⟩) (fun k q => q) (hg.weaken (fun k q => .inl q)) (Ext.refl W) (World.ownsRow_nil _ _ _ _)
    rw [stp_voice hc hk]
    have e1 : rdyB N T s ⟨(K : Int), (p : Int), bd⟩ = false := by unfold rdyB; rw [hrb]; rfl
    have e2 : tldB T s ⟨(K : Int), (p : Int), bd⟩ = false := by unfold tldB; rw [htb]; rfl
    rw [e1, e2]
    rfl
  clear hc HA hm hb k1 k4 _hT _hl hk hmv
  go_enter Try.func17, Try.ntmps17
  go_wp2_with fail
  refine (HC.out _ (HE.out.alloc _)).mono ?_
  rintro e w1 ⟨rfl, HX⟩
  have HS : TS b w.heap.size (cg N T F s mv) ⟨(K : Int), (p : Int), bd⟩ w1 := HTn.out.ext HX
  have HX1 : Hid (Ext w w1) := (HE.out.alloc _).trans HX
  clear HX HC HTn
  obtain ⟨hb1, b0, b1, b2, hlt⟩ := HS
  have hcc : w1.cell? ⟨b, 3 + K * 8 + p, none⟩ = some (.bool false) := HH.out w1 hb1
  have hzz := (hb1.2 (3 + K * 8 + p) (by omega)).2
  have hll := hb1.1
  have HT0 : Hid (TS b w.heap.size (cg N T F s mv) ⟨(K : Int), (p : Int), bd⟩ w1) := ⟨hb1, b0, b1, b2, hlt⟩
  clear hb1 b2
  go_wp2_with fail
  go_region
  have HT1 : Hid (TS b w.heap.size (cg N T F ⟨s.L ++ [⟨(K : Int), (p : Int), bd⟩], s.rb, s.tb⟩ mv) ⟨(K : Int), (p : Int), bd⟩ (w1.setCell ⟨b, 3 + K * 8 + p, none⟩ (.bool true)).drew) := (HPut.out w1 HT0.out).ext (Ext.refl _).drew
  have HG1 : Hid (Chg (fun x => x = b) w (w1.setCell ⟨b, 3 + K * 8 + p, none⟩ (.bool true)).drew) := (Chg.st (F := fun x => x = b) (.inl rfl) (Chg.of_ext _ HX1.out)).drew
  clear b0 b1 hlt hcc hzz hll HT0 HX1 HH HPut
  generalize (w1.setCell ⟨b, 3 + K * 8 + p, none⟩ (.bool true)).drew = W1 at *
  obtain ⟨t0, t1, t2, t3, t4⟩ := HT1.out
  have c37 : W1.cell? ⟨b, 37, none⟩ = some (.bool true) := (t0.2 37 (by decide)).1.trans (congrArg (fun z => some (Value.bool z)) htb)
  have hbl := t0.1
  have HZ : Hid (TkP N T F s ⟨(K : Int), (p : Int), bd⟩ (.pointer (some ⟨b, 0, none⟩)) (fun k => k = b ∨ mv = some k) w (.returned (.slice none 0 0)) W1) := HP.out W1 HG1.out t0
  clear t0 HP htb hrb
  go_wp2
  go_ret
  exact HZ.out
end Go.Proofs.Ytmibekclhnkhnaa
