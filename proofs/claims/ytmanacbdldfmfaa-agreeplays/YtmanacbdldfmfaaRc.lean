/-
 The document's part: proposal, decide, called.
-/
import Derived.Test.YtmanacbdldfmfaaRb
namespace Go.Proofs.Ytmanacbdldfmfaa
open Go.RowKit
set_option maxRecDepth 10000
theorem size39 : (Try.prog.info? 39).map (·.size) = some 5 := by kernel_rfl
theorem Wd.range {g : Nat} {kd fr rd va : Int} {vl : ByteArray} {w : World} (h : Wd g kd fr rd va vl w) : w.rangeAt g 0 [.int .i64 kd, .int .i64 fr, .int .i64 rd, .int .i64 va, .string vl] := fun j v hv => by
 obtain ⟨h0, h1, h2, h3, h4, _⟩ := h
 match j with
 | 0 => simp at hv; subst hv; exact h0
 | 1 => simp at hv; subst hv; exact h1
 | 2 => simp at hv; subst hv; exact h2
 | 3 => simp at hv; subst hv; exact h3
 | 4 => simp at hv; subst hv; exact h4
 | j + 5 => simp at hv
theorem ret_w {fn : Func} {p q : Tmp} (h : fn.results = #[.cell p 39, .tmp q]) (tmps : Array Value) (w : World) (g : Nat) (kd fr rd va : Int) (vl : ByteArray)
  (hp : tmps.getD p undef = .pointer (some ⟨g, 0, none⟩)) (hW : Wd g kd fr rd va vl w) :
  (results fn tmps).run Try.prog w = .ok (.tuple #[.agg #[.int .i64 kd, .int .i64 fr, .int .i64 rd, .int .i64 va, .string vl], tmps.getD q undef]) w := by
 have hp' : tmps[p]?.getD undef = .pointer (some ⟨g, 0, none⟩) := by simpa using hp
 have hl := run_loadVar_mid (P := Try.prog) w g 0 39 _ _ hW.range Try.underlying39 rfl size39
 simp [results, h, hp', asAddr, hl]
theorem Wd.five {w : World} {g : Nat} {z : Nat → Value} (h : Blk w g 5 z) (kd fr rd va : Int) (vl : ByteArray) : Wd g kd fr rd va vl (((((w.setCell ⟨g, 0, none⟩ (.int .i64 kd)).setCell ⟨g, 1, none⟩ (.int .i64 fr)).setCell ⟨g, 2, none⟩ (.int .i64 rd)).setCell ⟨g, 3, none⟩ (.int .i64 va)).setCell ⟨g, 4, none⟩ (.string vl)) := by
 have q := ((((h.put (i := 0) (by decide) (.int .i64 kd)).put (i := 1) (by decide) (.int .i64 fr)).put (i := 2) (by decide) (.int .i64 rd)).put (i := 3) (by decide) (.int .i64 va)).put (i := 4) (by decide) (.string vl)
 exact ⟨(q.2 0 (by decide)).1, (q.2 1 (by decide)).1, (q.2 2 (by decide)).1, (q.2 3 (by decide)).1, (q.2 4 (by decide)).1, q.1⟩
/-- What the definition finds. -/
def PropP (ps : List Vt) (r : Int) (w : World) (e : Ending) (w' : World) : Prop := match propA ps r with
 | some m => e = .returned (.tuple #[wv m, .bool true]) ∧ Ext w w'
 | none => e = .returned (.tuple #[wv ⟨0, 0, 0, 0, emp⟩, .bool false]) ∧ Ext w w'
theorem prop_take {ps : List Vt} {r : Int} {j : Nat} {m : Vt} (h : ps[j]? = some m) (hn : propA (ps.take j) r = none) : propA (ps.take (j + 1)) r = if m.rd = r then some m else none := by
 unfold propA at hn ⊢
 rw [List.take_add_one, h, List.find?_append, hn]
 simp only [Option.toList_some, List.find?_cons, List.find?_nil, Option.none_or]
 by_cases q : m.rd = r <;> simp [q]
theorem prop_more {ps : List Vt} {r : Int} {j : Nat} {m : Vt} (h : propA (ps.take j) r = some m) : propA ps r = some m := by
 unfold propA at h ⊢
 conv => lhs; rw [← List.take_append_drop j ps]
 rw [List.find?_append, h]
 rfl
set_option maxHeartbeats 4000000 in
theorem rprop_any (p : Pm) (s : Ag) (a1 : Option Addr) (n c1 : Nat) (a2 : Option Addr) (n2 c2 : Nat) (r : Int) (hn : s.ps.length = n) (hn2 : n ≤ 1000) (w : World) (hL : WsIs w (.slice a1 s.ps.length c1) s.ps) :
  Calls Try.prog 34 #[av p s a1 n c1 a2 n2 c2, .int .i64 r] w fun e w' => PropP s.ps r w e w' := by
 have HN : Hid (s.ps.length = n) := hn
 have HN2 : Hid (n ≤ 1000) := hn2
 have HL : Hid (WsIs w (.slice a1 s.ps.length c1) s.ps) := hL
 have HE : Hid (Ext w ((w.alloc (.cells #[.int .i64 p.me, .int .i64 p.ht, .string p.own, .int .i64 s.rd, .int .i64 s.st, .string s.lk, .int .i64 s.lr, .string s.vv, .int .i64 s.vr, .slice a1 n c1, .int .i64 (p.n : Int), .int .i64 (p.t : Int), .slice a2 n2 c2, .bool (fiveA s), .bool s.dn, .string s.dc] 34)).alloc (.cells #[.int .i64 0, .int .i64 0, .int .i64 0, .int .i64 0, .string ⟨#[]⟩] 39))) := ((Ext.refl w).alloc _).alloc _
 have HC : Hid (∀ wx, Ext ((w.alloc (.cells #[.int .i64 p.me, .int .i64 p.ht, .string p.own, .int .i64 s.rd, .int .i64 s.st, .string s.lk, .int .i64 s.lr, .string s.vv, .int .i64 s.vr, .slice a1 n c1, .int .i64 (p.n : Int), .int .i64 (p.t : Int), .slice a2 n2 c2, .bool (fiveA s), .bool s.dn, .string s.dc] 34)).alloc (.cells #[.int .i64 0, .int .i64 0, .int .i64 0, .int .i64 0, .string ⟨#[]⟩] 39)) wx → wx.cell? ⟨w.heap.size, 9, none⟩ = some (.slice a1 n c1) ∧ w.heap.size < wx.heap.size) := fun wx hx => by
  have q : Ext (w.alloc (.cells #[.int .i64 p.me, .int .i64 p.ht, .string p.own, .int .i64 s.rd, .int .i64 s.st, .string s.lk, .int .i64 s.lr, .string s.vv, .int .i64 s.vr, .slice a1 n c1, .int .i64 (p.n : Int), .int .i64 (p.t : Int), .slice a2 n2 c2, .bool (fiveA s), .bool s.dn, .string s.dc] 34)) wx := ((Ext.refl _).alloc _).trans hx
  exact ⟨later q (by rw [World.cell?_alloc_at _ _ _ _ rfl]; rfl), Nat.lt_of_lt_of_le (by simp) q.size⟩
 have HZ : Hid (∀ wx, Ext ((w.alloc (.cells #[.int .i64 p.me, .int .i64 p.ht, .string p.own, .int .i64 s.rd, .int .i64 s.st, .string s.lk, .int .i64 s.lr, .string s.vv, .int .i64 s.vr, .slice a1 n c1, .int .i64 (p.n : Int), .int .i64 (p.t : Int), .slice a2 n2 c2, .bool (fiveA s), .bool s.dn, .string s.dc] 34)).alloc (.cells #[.int .i64 0, .int .i64 0, .int .i64 0, .int .i64 0, .string ⟨#[]⟩] 39)) wx → Wd (w.heap.size + 1) 0 0 0 0 ⟨#[]⟩ wx ∧ Blk wx (w.heap.size + 1) 5 (fun j => if j = 4 then .string ⟨#[]⟩ else .int .i64 0)) := fun wx hx => by
  have e : (w.alloc (.cells #[.int .i64 p.me, .int .i64 p.ht, .string p.own, .int .i64 s.rd, .int .i64 s.st, .string s.lk, .int .i64 s.lr, .string s.vv, .int .i64 s.vr, .slice a1 n c1, .int .i64 (p.n : Int), .int .i64 (p.t : Int), .slice a2 n2 c2, .bool (fiveA s), .bool s.dn, .string s.dc] 34)).heap.size = w.heap.size + 1 := by simp
  have q1 := Wd.new (w.alloc (.cells #[.int .i64 p.me, .int .i64 p.ht, .string p.own, .int .i64 s.rd, .int .i64 s.st, .string s.lk, .int .i64 s.lr, .string s.vv, .int .i64 s.vr, .slice a1 n c1, .int .i64 (p.n : Int), .int .i64 (p.t : Int), .slice a2 n2 c2, .bool (fiveA s), .bool s.dn, .string s.dc] 34)) 0 0 0 0 ⟨#[]⟩
  have q2 := Blk.new (w.alloc (.cells #[.int .i64 p.me, .int .i64 p.ht, .string p.own, .int .i64 s.rd, .int .i64 s.st, .string s.lk, .int .i64 s.lr, .string s.vv, .int .i64 s.vr, .slice a1 n c1, .int .i64 (p.n : Int), .int .i64 (p.t : Int), .slice a2 n2 c2, .bool (fiveA s), .bool s.dn, .string s.dc] 34)) (n := 5) (g := fun j => if j = 4 then .string ⟨#[]⟩ else .int .i64 0) #[.int .i64 0, .int .i64 0, .int .i64 0, .int .i64 0, .string ⟨#[]⟩] 39 (fun j hj => by
   have : j = 0 ∨ j = 1 ∨ j = 2 ∨ j = 3 ∨ j = 4 := by omega
   rcases this with rfl | rfl | rfl | rfl | rfl <;> rfl)
  rw [e] at q1 q2
  exact ⟨q1.ext hx, q2.ext hx⟩
 clear hL hn hn2
 go_enter Try.func34, Try.ntmps34
 go_wp2_with fail
 go_loopw [6] (fun u6 wr => ∃ j : Nat, j ≤ n ∧ u6 = .int .i64 j ∧ Hid (Ext ((w.alloc (.cells #[.int .i64 p.me, .int .i64 p.ht, .string p.own, .int .i64 s.rd, .int .i64 s.st, .string s.lk, .int .i64 s.lr, .string s.vv, .int .i64 s.vr, .slice a1 n c1, .int .i64 (p.n : Int), .int .i64 (p.t : Int), .slice a2 n2 c2, .bool (fiveA s), .bool s.dn, .string s.dc] 34)).alloc (.cells #[.int .i64 0, .int .i64 0, .int .i64 0, .int .i64 0, .string ⟨#[]⟩] 39)) wr) ∧ Hid (propA (s.ps.take j) r = none)) (fun u6 _ => n - (intOf u6).toNat)
 case atStart => exact ⟨0, Nat.zero_le _, rfl, Ext.refl _, rfl⟩
 case round =>
  obtain ⟨j, hj, rfl, HX, HQ⟩ := hrel
  obtain ⟨c9, l0⟩ := HC.out _ HX.out
  by_cases hlt : j < n
  ·obtain ⟨q1, q0, qw⟩ := lp_nums j n hlt (by have := HN2.out; omega)
   obtain ⟨m, hm⟩ : ∃ m, Hid (s.ps[j]? = some m) := ⟨s.ps[j]'(by rw [HN.out]; exact hlt), List.getElem?_eq_getElem _⟩
   have HL2 : WsIs wr (.slice a1 s.ps.length c1) s.ps := HL.out.ext (HE.out.trans HX.out)
   obtain ⟨g, o, rfl, hbl, hd0, hd1, hd2, hd3, hd4⟩ := HL2.get hm.out
   clear HL2
   have HT : Hid (propA (s.ps.take (j + 1)) r = if m.rd = r then some m else none) := prop_take hm.out HQ.out
   by_cases e1 : m.rd = r
   ·have b1 : (m.rd == r) = true := by simpa using e1
    have HP : Hid (propA s.ps r = some m) := prop_more (HT.out.trans (if_pos e1))
    obtain ⟨hz1, hz2⟩ := HZ.out _ HX.out
    have lz := hz2.1
    have z0 := (hz2.2 0 (by decide)).1
    have z1 := (hz2.2 1 (by decide)).1
    have z2 := (hz2.2 2 (by decide)).1
    have z3 := (hz2.2 3 (by decide)).1
    have z4 := (hz2.2 4 (by decide)).1
    have y0 := (hz2.2 0 (by decide)).2
    have y1 := (hz2.2 1 (by decide)).2
    have y2 := (hz2.2 2 (by decide)).2
    have y3 := (hz2.2 3 (by decide)).2
    have y4 := (hz2.2 4 (by decide)).2
    have HW : Hid (Wd (w.heap.size + 1) m.kd m.fr m.rd m.va m.vl _) := Wd.five hz2 m.kd m.fr m.rd m.va m.vl
    have HF : Hid (Ext w (((((wr.setCell ⟨w.heap.size + 1, 0, none⟩ (.int .i64 m.kd)).setCell ⟨w.heap.size + 1, 1, none⟩ (.int .i64 m.fr)).setCell ⟨w.heap.size + 1, 2, none⟩ (.int .i64 m.rd)).setCell ⟨w.heap.size + 1, 3, none⟩ (.int .i64 m.va)).setCell ⟨w.heap.size + 1, 4, none⟩ (.string m.vl))) := Ext.st (by omega) (Ext.st (by omega) (Ext.st (by omega) (Ext.st (by omega) (Ext.st (by omega) (HE.out.trans HX.out)))))
    clear hz1 hz2 e1 HT
    go_wp2_with fail
    refine bodyPost_ret (ret_w Try.results34 _ _ (w.heap.size + 1) m.kd m.fr m.rd m.va m.vl rfl HW.out) rfl ?_
    unfold PropP
    rw [HP.out]
    exact ⟨rfl, HF.out⟩
   ·have b1 : (m.rd == r) = false := by simpa using e1
    have HT2 : Hid (propA (s.ps.take (j + 1)) r = none) := HT.out.trans (if_neg e1)
    clear e1 HT
    go_wp2_with fail
    go_roundw
    case rel => exact ⟨j + 1, hlt, by push_cast; rfl, HX, HT2⟩
    case measure => exact lp_meas hlt
  ·obtain rfl : j = n := by omega
   have HP : Hid (propA s.ps r = none) := by
    have := HQ.out
    rw [List.take_of_length_le (by rw [HN.out]; exact Nat.le_refl _)] at this
    exact this
   have hnl : ¬ (j : Int) < (j : Int) := by omega
   obtain ⟨hz1, hz2⟩ := HZ.out _ HX.out
   have lz := hz2.1
   have z0 := (hz2.2 0 (by decide)).1
   have z1 := (hz2.2 1 (by decide)).1
   have z2 := (hz2.2 2 (by decide)).1
   have z3 := (hz2.2 3 (by decide)).1
   have z4 := (hz2.2 4 (by decide)).1
   have y0 := (hz2.2 0 (by decide)).2
   have y1 := (hz2.2 1 (by decide)).2
   have y2 := (hz2.2 2 (by decide)).2
   have y3 := (hz2.2 3 (by decide)).2
   have y4 := (hz2.2 4 (by decide)).2
   have HW : Hid (Wd (w.heap.size + 1) 0 0 0 0 ⟨#[]⟩ _) := Wd.five hz2 0 0 0 0 ⟨#[]⟩
   have HF : Hid (Ext w (((((wr.setCell ⟨w.heap.size + 1, 0, none⟩ (.int .i64 0)).setCell ⟨w.heap.size + 1, 1, none⟩ (.int .i64 0)).setCell ⟨w.heap.size + 1, 2, none⟩ (.int .i64 0)).setCell ⟨w.heap.size + 1, 3, none⟩ (.int .i64 0)).setCell ⟨w.heap.size + 1, 4, none⟩ (.string ⟨#[]⟩))) := Ext.st (by omega) (Ext.st (by omega) (Ext.st (by omega) (Ext.st (by omega) (Ext.st (by omega) (HE.out.trans HX.out)))))
   clear hz1 hz2
   go_wp2_with fail
   refine bodyPost_ret (ret_w Try.results34 _ _ (w.heap.size + 1) 0 0 0 0 ⟨#[]⟩ rfl HW.out) rfl ?_
   unfold PropP
   rw [HP.out]
   exact ⟨rfl, HF.out⟩

theorem R2.fz {w wx : World} {g0 g1 : Nat} {cs : Array Value} (h : R2 w g0 cs g1 wx) (j : Nat) : wx.frozen? ⟨g0, j, none⟩ = false := by
 simp [World.frozen?, h.b0]
theorem R2.fld {w wx : World} {g0 g1 : Nat} {cs : Array Value} (h : R2 w g0 cs g1 wx) (j : Nat) (v : Value) : R2 w g0 (cs.setIfInBounds j v) g1 (wx.setCell ⟨g0, j, none⟩ v) := by
 obtain ⟨z, hz, hb⟩ := h.b1
 exact ⟨Ext.st h.l0 h.ext, heap_setCell_same wx g0 j cs 34 v h.b0, ⟨z, hz, (Below.heap_setCell wx ⟨g0, j, none⟩ v g1 (fun q => h.ne q.symm)).trans hb⟩, h.l0, h.l1, h.ne⟩
/-- What the definition decides. -/
def RdP (p : Pm) (s : Ag) (a1 : Option Addr) (n1 c1 : Nat) (a2 : Option Addr) (n2 c2 : Nat) (w : World) (e : Ending) (w' : World) : Prop := match r1 p s with
 | some x => e = .returned (.tuple #[av p x.1 a1 n1 c1 a2 n2 c2, .bool true]) ∧ Ext w w'
 | none => e = .returned (.tuple #[av p s a1 n1 c1 a2 n2 c2, .bool false]) ∧ Ext w w'
set_option maxHeartbeats 8000000 in
theorem rdecide_any (p : Pm) (s : Ag) (hp : okP p) (hi : InvA p s) (a1 : Option Addr) (c1 : Nat) (a2 : Option Addr) (c2 : Nat) (hn1 : s.ps.length ≤ 1000) (hn2 : s.vs.length ≤ 1000) (w : World) (hL1 : WsIs w (.slice a1 s.ps.length c1) s.ps) (hL2 : WsIs w (.slice a2 s.vs.length c2) s.vs) :
  Calls Try.prog 49 #[av p s a1 s.ps.length c1 a2 s.vs.length c2] w fun e w' => RdP p s a1 s.ps.length c1 a2 s.vs.length c2 w e w' := by
 have HR : Hid (R2 w w.heap.size #[.int .i64 p.me, .int .i64 p.ht, .string p.own, .int .i64 s.rd, .int .i64 s.st, .string s.lk, .int .i64 s.lr, .string s.vv, .int .i64 s.vr, .slice a1 s.ps.length c1, .int .i64 (p.n : Int), .int .i64 (p.t : Int), .slice a2 s.vs.length c2, .bool (fiveA s), .bool s.dn, .string s.dc] (w.heap.size + 1) ((w.alloc (.cells #[.int .i64 p.me, .int .i64 p.ht, .string p.own, .int .i64 s.rd, .int .i64 s.st, .string s.lk, .int .i64 s.lr, .string s.vv, .int .i64 s.vr, .slice a1 s.ps.length c1, .int .i64 (p.n : Int), .int .i64 (p.t : Int), .slice a2 s.vs.length c2, .bool (fiveA s), .bool s.dn, .string s.dc] 34)).alloc (.cells #[.int .i64 0, .int .i64 0, .string ⟨#[]⟩, .int .i64 0, .int .i64 0, .string ⟨#[]⟩, .int .i64 0, .string ⟨#[]⟩, .int .i64 0, .slice none 0 0, .int .i64 0, .int .i64 0, .slice none 0 0, .bool false, .bool false, .string ⟨#[]⟩] 34))) := R2.new w _ _ rfl
 have HP : Hid (∀ wx, Ext w wx → ∀ j : Nat, j < 64 → Calls Try.prog 34 #[av p s a1 s.ps.length c1 a2 s.vs.length c2, .int .i64 (j : Int)] wx fun e w' => PropP s.ps (j : Int) wx e w') := fun wx hx j _ => rprop_any p s a1 _ c1 a2 _ c2 (j : Int) rfl hn1 wx (hL1.ext hx)
 have HI : Hid (∀ wx, Ext w wx → ∀ (k r : Int) (B : ByteArray), Calls Try.prog 51 #[av p s a1 s.ps.length c1 a2 s.vs.length c2, .int .i64 k, .int .i64 r, .string B] wx fun e w' => e = .returned (.bool (isA p s.vs k r B)) ∧ Ext wx w') := fun wx hx k r B => ris_any p s hp hi a1 _ c1 a2 c2 k r B hn2 wx (hL2.ext hx)
 clear hp hi hL1 hL2 hn1 hn2
 go_enter Try.func49, Try.ntmps49
 go_wp2_with fail
 obtain ⟨W, hW⟩ : ∃ W, ((w.alloc (.cells #[.int .i64 p.me, .int .i64 p.ht, .string p.own, .int .i64 s.rd, .int .i64 s.st, .string s.lk, .int .i64 s.lr, .string s.vv, .int .i64 s.vr, .slice a1 s.ps.length c1, .int .i64 (p.n : Int), .int .i64 (p.t : Int), .slice a2 s.vs.length c2, .bool (fiveA s), .bool s.dn, .string s.dc] 34)).alloc (.cells #[.int .i64 0, .int .i64 0, .string ⟨#[]⟩, .int .i64 0, .int .i64 0, .string ⟨#[]⟩, .int .i64 0, .string ⟨#[]⟩, .int .i64 0, .slice none 0 0, .int .i64 0, .int .i64 0, .slice none 0 0, .bool false, .bool false, .string ⟨#[]⟩] 34)) = W := ⟨_, rfl⟩
 rw [hW] at HR ⊢
 clear hW
 go_loopw [4] (fun u4 wr => ∃ j : Nat, j ≤ 64 ∧ u4 = .int .i64 j ∧ Hid (R2 w w.heap.size #[.int .i64 p.me, .int .i64 p.ht, .string p.own, .int .i64 s.rd, .int .i64 s.st, .string s.lk, .int .i64 s.lr, .string s.vv, .int .i64 s.vr, .slice a1 s.ps.length c1, .int .i64 (p.n : Int), .int .i64 (p.t : Int), .slice a2 s.vs.length c2, .bool (fiveA s), .bool s.dn, .string s.dc] (w.heap.size + 1) wr) ∧ Hid (seekA (hitA p s) 0 64 = seekA (hitA p s) j (64 - j))) (fun u4 _ => 64 - (intOf u4).toNat)
 case atStart => exact ⟨0, by omega, rfl, HR, rfl⟩
 case round =>
  obtain ⟨j, hj, rfl, HR0, HQ⟩ := hrel
  clear HR
  have hR0 := HR0.out
  have hB0 := hR0.b0
  clear HR0
  by_cases hlt : j < 64
  ·obtain ⟨q1, q0, qw⟩ := lp_nums j 64 hlt (by omega)
   cases hq : propA s.ps (j : Int) with
   | none =>
    have HQ1 : Hid (propA s.ps (j : Int) = none) := hq
    have HN : Hid (hitA p s j = none) := by show hitA p s j = none; unfold hitA; rw [hq]
    clear hq
    skip
    go_upto_region 4 with fail
    refine wp_region_lit ?_
    refine wl_ld34 rfl rfl rfl hB0 rfl ?_
    try simp only [sx]
    refine wpList_plain rfl fun K hK => ?_
    go_simp
    refine hK _ _ ?_
    clear hK K
    try simp only [sx]
    refine wpList_plain rfl fun K hK => ?_
    go_simp
    refine (HP.out _ hR0.ext j hlt).mono ?_
    rintro e w1 hp1
    unfold PropP at hp1
    rw [HQ1.out] at hp1
    obtain ⟨rfl, HX1⟩ := hp1
    have hR1 := hR0.further HX1
    clear HX1
    dsimp only
    refine hK _ _ ?_
    clear hK K
    try simp only [sx]
    refine wpList_plain rfl fun K hK => ?_
    go_simp
    refine hK _ _ ?_
    clear hK K
    try simp only [sx]
    refine wpList_plain rfl fun K hK => ?_
    go_simp
    refine hK _ _ ?_
    clear hK K
    try simp only [sx]
    refine wpList_plain rfl fun K hK => ?_
    go_simp
    refine hK _ _ ?_
    clear hK K
    try simp only [sx]
    refine wpList_plain rfl fun K hK => ?_
    go_simp
    refine hK _ _ ?_
    clear hK K
    try simp only [sx]
    refine wpList_plain rfl fun K hK => ?_
    go_simp
    refine hK _ _ ?_
    clear hK K
    try simp only [sx]
    refine wpList_plain rfl fun K hK => ?_
    go_simp
    refine hK _ _ ?_
    clear hK K
    try simp only [sx]
    have hR2 := hR1.further ((Ext.refl w1).alloc (.cells #[.int .i64 0, .int .i64 0, .int .i64 0, .int .i64 0, .string ⟨#[]⟩] 39))
    have hWd : Wd w1.heap.size 0 0 0 0 ⟨#[]⟩ (w1.alloc (.cells #[.int .i64 0, .int .i64 0, .int .i64 0, .int .i64 0, .string ⟨#[]⟩] 39)) := Wd.new w1 _ _ _ _ _
    obtain ⟨W5, hW5⟩ : ∃ X, w1.alloc (.cells #[.int .i64 0, .int .i64 0, .int .i64 0, .int .i64 0, .string ⟨#[]⟩] 39) = X := ⟨_, rfl⟩
    rw [hW5] at hR2 hWd ⊢
    clear hW5 hR1 hR0 hB0
    generalize w1.heap.size = gp at *
    have HR2 : Hid _ := hR2
    clear hR2 hWd
    go_wp2_with fail
    go_roundw
    case rel => exact ⟨j + 1, hlt, by push_cast; rfl, HR2, HQ.out.trans (seek_step _ hlt HN.out)⟩
    case measure => exact lp_meas hlt

   | some m =>
    have HQ1 : Hid (propA s.ps (j : Int) = some m) := hq
    have HN0 : Hid (hitA p s j = if isA p s.vs 3 (j : Int) m.vl = true then some m.vl else none) := by show hitA p s j = _; unfold hitA; rw [hq]
    clear hq
    cases hm : isA p s.vs 3 (j : Int) m.vl with
    | false =>
    have Hm : Hid (isA p s.vs 3 (j : Int) m.vl = false) := hm
    have HN : Hid (hitA p s j = none) := HN0.out.trans (by rw [hm]; rfl)
    clear hm
    skip
    go_upto_region 4 with fail
    refine wp_region_lit ?_
    refine wl_ld34 rfl rfl rfl hB0 rfl ?_
    try simp only [sx]
    refine wpList_plain rfl fun K hK => ?_
    go_simp
    refine hK _ _ ?_
    clear hK K
    try simp only [sx]
    refine wpList_plain rfl fun K hK => ?_
    go_simp
    refine (HP.out _ hR0.ext j hlt).mono ?_
    rintro e w1 hp1
    unfold PropP at hp1
    rw [HQ1.out] at hp1
    obtain ⟨rfl, HX1⟩ := hp1
    have hR1 := hR0.further HX1
    clear HX1
    dsimp only
    refine hK _ _ ?_
    clear hK K
    try simp only [sx]
    refine wpList_plain rfl fun K hK => ?_
    go_simp
    refine hK _ _ ?_
    clear hK K
    try simp only [sx]
    refine wpList_plain rfl fun K hK => ?_
    go_simp
    refine hK _ _ ?_
    clear hK K
    try simp only [sx]
    refine wpList_plain rfl fun K hK => ?_
    go_simp
    refine hK _ _ ?_
    clear hK K
    try simp only [sx]
    refine wpList_plain rfl fun K hK => ?_
    go_simp
    refine hK _ _ ?_
    clear hK K
    try simp only [sx]
    refine wpList_plain rfl fun K hK => ?_
    go_simp
    refine hK _ _ ?_
    clear hK K
    try simp only [sx]
    refine wpList_plain rfl fun K hK => ?_
    go_simp
    refine hK _ _ ?_
    clear hK K
    try simp only [sx]
    have hR2 := hR1.further ((Ext.refl w1).alloc (.cells #[.int .i64 m.kd, .int .i64 m.fr, .int .i64 m.rd, .int .i64 m.va, .string m.vl] 39))
    have hWd : Wd w1.heap.size m.kd m.fr m.rd m.va m.vl (w1.alloc (.cells #[.int .i64 m.kd, .int .i64 m.fr, .int .i64 m.rd, .int .i64 m.va, .string m.vl] 39)) := Wd.new w1 _ _ _ _ _
    obtain ⟨W5, hW5⟩ : ∃ X, w1.alloc (.cells #[.int .i64 m.kd, .int .i64 m.fr, .int .i64 m.rd, .int .i64 m.va, .string m.vl] 39) = X := ⟨_, rfl⟩
    rw [hW5] at hR2 hWd ⊢
    clear hW5 hR1 hR0 hB0
    generalize w1.heap.size = gp at *
    have p4 := hWd.2.2.2.2.1
    have pl := hWd.2.2.2.2.2
    go_upto_region 5 with fail
    refine wp_region_lit ?_
    refine wpList_plain rfl fun K hK => ?_
    go_simp
    refine hK _ _ ?_
    clear hK K
    try simp only [sx]
    refine wpList_plain rfl fun K hK => ?_
    go_simp
    refine hK _ _ ?_
    clear hK K
    try simp only [sx]
    refine BigFrame.wpList_want rfl fun K hK => ?_
    refine wp_ld34 rfl rfl hR2.b0 rfl ?_
    refine hK _ _ ?_
    clear hK K
    try simp only [sx]
    refine BigFrame.wpList_want rfl fun K hK => ?_
    go_simp
    refine hK _ _ ?_
    clear hK K
    try simp only [sx]
    refine BigFrame.wpList_want rfl fun K hK => ?_
    go_simp
    refine hK _ _ ?_
    clear hK K
    try simp only [sx]
    refine BigFrame.wpList_want rfl fun K hK => ?_
    go_simp
    refine hK _ _ ?_
    clear hK K
    try simp only [sx]
    refine BigFrame.wpList_want rfl fun K hK => ?_
    go_simp
    refine (HI.out _ hR2.ext 3 (j : Int) m.vl).mono ?_
    rintro e w2 ⟨rfl, HX2⟩
    rw [Hm.out]
    have hR3 := hR2.further HX2
    have hW3 := hWd.ext HX2
    clear HX2
    dsimp only
    refine hK _ _ ?_
    clear hK K
    try simp only [sx]
    refine wpList_plain rfl fun K hK => ?_
    go_simp
    refine hK _ _ ?_
    clear hK K
    try simp only [sx]
    clear p4 pl hWd hR2
    have HR3 : Hid _ := hR3
    clear hR3 hW3
    go_wp2_with fail
    go_roundw
    case rel => exact ⟨j + 1, hlt, by push_cast; rfl, HR3, HQ.out.trans (seek_step _ hlt HN.out)⟩
    case measure => exact lp_meas hlt

    | true =>
    have Hm : Hid (isA p s.vs 3 (j : Int) m.vl = true) := hm
    have HD : Hid (r1 p s = some ({ s with dn := true, dc := m.vl }, [])) := by
     show r1 p s = _
     unfold r1
     rw [HQ.out, seek_hit _ hlt (HN0.out.trans (if_pos hm))]
     rfl
    clear hm
    skip
    go_upto_region 4 with fail
    refine wp_region_lit ?_
    refine wl_ld34 rfl rfl rfl hB0 rfl ?_
    try simp only [sx]
    refine wpList_plain rfl fun K hK => ?_
    go_simp
    refine hK _ _ ?_
    clear hK K
    try simp only [sx]
    refine wpList_plain rfl fun K hK => ?_
    go_simp
    refine (HP.out _ hR0.ext j hlt).mono ?_
    rintro e w1 hp1
    unfold PropP at hp1
    rw [HQ1.out] at hp1
    obtain ⟨rfl, HX1⟩ := hp1
    have hR1 := hR0.further HX1
    clear HX1
    dsimp only
    refine hK _ _ ?_
    clear hK K
    try simp only [sx]
    refine wpList_plain rfl fun K hK => ?_
    go_simp
    refine hK _ _ ?_
    clear hK K
    try simp only [sx]
    refine wpList_plain rfl fun K hK => ?_
    go_simp
    refine hK _ _ ?_
    clear hK K
    try simp only [sx]
    refine wpList_plain rfl fun K hK => ?_
    go_simp
    refine hK _ _ ?_
    clear hK K
    try simp only [sx]
    refine wpList_plain rfl fun K hK => ?_
    go_simp
    refine hK _ _ ?_
    clear hK K
    try simp only [sx]
    refine wpList_plain rfl fun K hK => ?_
    go_simp
    refine hK _ _ ?_
    clear hK K
    try simp only [sx]
    refine wpList_plain rfl fun K hK => ?_
    go_simp
    refine hK _ _ ?_
    clear hK K
    try simp only [sx]
    have hR2 := hR1.further ((Ext.refl w1).alloc (.cells #[.int .i64 m.kd, .int .i64 m.fr, .int .i64 m.rd, .int .i64 m.va, .string m.vl] 39))
    have hWd : Wd w1.heap.size m.kd m.fr m.rd m.va m.vl (w1.alloc (.cells #[.int .i64 m.kd, .int .i64 m.fr, .int .i64 m.rd, .int .i64 m.va, .string m.vl] 39)) := Wd.new w1 _ _ _ _ _
    obtain ⟨W5, hW5⟩ : ∃ X, w1.alloc (.cells #[.int .i64 m.kd, .int .i64 m.fr, .int .i64 m.rd, .int .i64 m.va, .string m.vl] 39) = X := ⟨_, rfl⟩
    rw [hW5] at hR2 hWd ⊢
    have hRz := hR1
    clear hW5 hR1 hR0 hB0
    have hlen : w.heap.size + 1 < w1.heap.size := by obtain ⟨z, _, q⟩ := hRz.b1; exact (Array.getElem?_eq_some_iff.1 q).1
    clear hRz
    generalize w1.heap.size = gp at *
    have p4 := hWd.2.2.2.2.1
    have pl := hWd.2.2.2.2.2
    go_upto_region 5 with fail
    refine wp_region_lit ?_
    refine wpList_plain rfl fun K hK => ?_
    go_simp
    refine hK _ _ ?_
    clear hK K
    try simp only [sx]
    refine wpList_plain rfl fun K hK => ?_
    go_simp
    refine hK _ _ ?_
    clear hK K
    try simp only [sx]
    refine BigFrame.wpList_want rfl fun K hK => ?_
    refine wp_ld34 rfl rfl hR2.b0 rfl ?_
    refine hK _ _ ?_
    clear hK K
    try simp only [sx]
    refine BigFrame.wpList_want rfl fun K hK => ?_
    go_simp
    refine hK _ _ ?_
    clear hK K
    try simp only [sx]
    refine BigFrame.wpList_want rfl fun K hK => ?_
    go_simp
    refine hK _ _ ?_
    clear hK K
    try simp only [sx]
    refine BigFrame.wpList_want rfl fun K hK => ?_
    go_simp
    refine hK _ _ ?_
    clear hK K
    try simp only [sx]
    refine BigFrame.wpList_want rfl fun K hK => ?_
    go_simp
    refine (HI.out _ hR2.ext 3 (j : Int) m.vl).mono ?_
    rintro e w2 ⟨rfl, HX2⟩
    rw [Hm.out]
    have hR3 := hR2.further HX2
    have hW3 := hWd.ext HX2
    clear HX2
    dsimp only
    refine hK _ _ ?_
    clear hK K
    try simp only [sx]
    refine wpList_plain rfl fun K hK => ?_
    go_simp
    refine hK _ _ ?_
    clear hK K
    try simp only [sx]
    clear p4 pl hWd hR2
    have p4 := hW3.2.2.2.2.1
    have pl := hW3.2.2.2.2.2
    have k14 := (hR3.cell (j := 14) rfl).1
    have k15 := (hR3.cell (j := 15) rfl).1
    have kl := (hR3.cell (j := 15) rfl).2
    have y14 := hR3.fz 14
    have y15 := hR3.fz 15
    have hgp : ¬ gp = w.heap.size := by omega
    go_upto_region 8 with fail
    have hR5 : R2 w w.heap.size #[.int .i64 p.me, .int .i64 p.ht, .string p.own, .int .i64 s.rd, .int .i64 s.st, .string s.lk, .int .i64 s.lr, .string s.vv, .int .i64 s.vr, .slice a1 s.ps.length c1, .int .i64 (p.n : Int), .int .i64 (p.t : Int), .slice a2 s.vs.length c2, .bool (fiveA s), .bool true, .string m.vl] (w.heap.size + 1) ((w2.setCell ⟨w.heap.size, 14, none⟩ (.bool true)).setCell ⟨w.heap.size, 15, none⟩ (.string m.vl)) := (hR3.fld 14 (.bool true)).fld 15 (.string m.vl)
    generalize (w2.setCell ⟨w.heap.size, 14, none⟩ (.bool true)).setCell ⟨w.heap.size, 15, none⟩ (.string m.vl) = W6 at *
    clear k14 k15 kl y14 y15 p4 pl hR3 hW3
    refine wp_region_lit ?_
    refine wl_ld34 rfl rfl rfl hR5.b0 rfl ?_
    try simp only [sx]
    refine wl_st34 rfl rfl rfl rfl hR5 rfl (by kernel_rfl) ?_
    intro W1' hR1' hG1' hB1' hK1'
    try simp only [sx]
    refine wpList_plain rfl fun K hK => ?_
    go_simp
    refine hK _ _ ?_
    clear hK K
    try simp only [sx]
    go_wp2_with fail
    refine bodyPost_ret (ret_two Try.results49 _ _ (w.heap.size + 1) 34 #[.int .i64 p.me, .int .i64 p.ht, .string p.own, .int .i64 s.rd, .int .i64 s.st, .string s.lk, .int .i64 s.lr, .string s.vv, .int .i64 s.vr, .slice a1 s.ps.length c1, .int .i64 (p.n : Int), .int .i64 (p.t : Int), .slice a2 s.vs.length c2, .bool (fiveA s), .bool true, .string m.vl] (0, 0) rfl hG1' rfl) rfl ?_
    unfold RdP
    rw [HD.out]
    exact ⟨rfl, hR1'.ext⟩

  ·skip
   obtain rfl : j = 64 := by omega
   have HD : Hid (r1 p s = none) := by
    show r1 p s = none
    unfold r1
    rw [HQ.out]
    rfl
   go_upto_region 9 with fail
   refine wp_region_lit ?_
   refine wl_ld34 rfl rfl rfl hB0 rfl ?_
   try simp only [sx]
   refine wl_st34 rfl rfl rfl rfl hR0 rfl (by kernel_rfl) ?_
   intro W1' hR1' hG1' hB1' hK1'
   try simp only [sx]
   refine wpList_plain rfl fun K hK => ?_
   go_simp
   refine hK _ _ ?_
   clear hK K
   try simp only [sx]
   go_wp2_with fail
   refine bodyPost_ret (ret_two Try.results49 _ _ (w.heap.size + 1) 34 #[.int .i64 p.me, .int .i64 p.ht, .string p.own, .int .i64 s.rd, .int .i64 s.st, .string s.lk, .int .i64 s.lr, .string s.vv, .int .i64 s.vr, .slice a1 s.ps.length c1, .int .i64 (p.n : Int), .int .i64 (p.t : Int), .slice a2 s.vs.length c2, .bool (fiveA s), .bool s.dn, .string s.dc] (0, 0) rfl hG1' rfl) rfl ?_
   unfold RdP
   rw [HD.out]
   exact ⟨rfl, hR1'.ext⟩

end Go.Proofs.Ytmanacbdldfmfaa
