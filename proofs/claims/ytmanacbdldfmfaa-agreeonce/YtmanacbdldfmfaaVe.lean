/-
 (*votes.Votes).Put, called.
-/
import Derived.Test.YtmanacbdldfmfaaVd
namespace Go.Proofs.Ytmanacbdldfmfaa
set_option maxRecDepth 10000
open Go.RowKit
theorem exec_load9 {P : Program} {o : Oper} {a : Act} {w : World} (ty : TypeId) (x : Operand) (ho : o.op = .load ty x) (g : Nat) (hx : a.eval x = .pointer (some ⟨g, 0, none⟩)) (t : TypeId) (cs : Array Value) (fr : Nat × Nat) (d : TypeDesc) (hg : w.heap[g]? = some (.cells cs t fr))
  (hu : P.underlying ty = some d) (hd : (match d with | .struct _ | .array _ _ => true | _ => false) = true) (hi : (P.info? ty).map (·.size) = some cs.size) : (execOp a.eval o).run P w = .ok (.value (.agg cs)) w := by
 unfold execOp
 simp only [ho, hx, Instr.loadAt, Instr.sureAddr, Sem.run_bind, Sem.run_pure, Result.andThen_ok, run_loadVar_row w g t ty cs fr d hg hu hd hi]
/-- The votes with one more, put together. -/
theorem vb_put {w W5 W6 : World} {b bm : Nat} {sl : Int → Int → Value} {N T : Nat} {L : List Vt} (h : VB w b bm sl N T L) (m : Vt) (u' : Value) (hc : Chg (fun k => (sl m.kd m.rd).ownBlock = some k) w W5) (hp : Pl W5 u' (pls (L ++ [m]) m.kd m.rd))
  (hu : u'.ownBlock = (sl m.kd m.rd).ownBlock ∨ ∃ k, u'.ownBlock = some k ∧ w.heap.size ≤ k) (hb : Bm W6 bm (L.length + 1) (fun j q => if j = m.kd ∧ q = m.rd then bx (vf (L ++ [m]) m.kd m.rd) u' else bx (vf L j q) (sl j q))) (hg : W5.grownBy W6 (some bm)) :
  VB W6 b bm (fun k r => if k = m.kd ∧ r = m.rd then u' else sl k r) N T (L ++ [m]) ∧ Chg (vbG b bm sl) w W6 ∧ Sub (vbG b bm (fun k r => if k = m.kd ∧ r = m.rd then u' else sl k r)) (vbG b bm sl) w := by
 have hub : ∀ c, u'.ownBlock = some c → c ≠ b ∧ c ≠ bm := fun c q => by
  rcases hu with e | ⟨k, e, hk⟩
  ·rw [e] at q; exact h.off _ _ c q
  ·rw [e] at q
   injection q with q
   subst q
   have h1 := h.blk.1
   have h2 := h.map.lt
   omega
 have hold : ∀ c, c < w.heap.size → c ≠ bm → (sl m.kd m.rd).ownBlock ≠ some c → W6.heap[c]? = w.heap[c]? := fun c h1 h2 h3 => (hg.block c (Nat.lt_of_lt_of_le h1 hc.size) (fun q => h2 (by injection q))).trans (hc.block c h1 h3)
 refine ⟨⟨?_, h.ne, ?_, ?_, ?_, ?_⟩, ?_, ?_⟩
 ·refine h.blk.keep (Nat.le_trans hc.size hg.size) (hold b h.blk.1 h.ne.symm (fun q => (h.off _ _ b q).1 rfl))
 ·rw [List.length_append]
  have e : (fun k r => bx (vf (L ++ [m]) k r) (if k = m.kd ∧ r = m.rd then u' else sl k r)) = (fun j q => if j = m.kd ∧ q = m.rd then bx (vf (L ++ [m]) m.kd m.rd) u' else bx (vf L j q) (sl j q)) := by
   funext k r
   by_cases q : k = m.kd ∧ r = m.rd
   ·obtain ⟨rfl, rfl⟩ := q
    rw [if_pos ⟨rfl, rfl⟩, if_pos ⟨rfl, rfl⟩]
   ·rw [if_neg q, if_neg q]
    have e : ∀ i, vf (L ++ [m]) k r i = vf L k r i := fun i => by
     unfold vf
     rw [hasV_snoc, decide_eq_false (fun z => q ⟨z.1.symm, z.2.1.symm⟩), Bool.or_false]
    unfold bx
    simp only [e]
  rw [e]
  exact hb
 ·intro k r
  show Pl W6 (if k = m.kd ∧ r = m.rd then u' else sl k r) _
  by_cases q : k = m.kd ∧ r = m.rd
  ·obtain ⟨rfl, rfl⟩ := q
   rw [if_pos ⟨rfl, rfl⟩]
   exact hp.keep fun c z => hg.block c (hp.lt c z).2 (fun y => (hub c z).2 (by injection y))
  ·rw [if_neg q, pls_other (fun z => q ⟨z.1.symm, z.2.symm⟩)]
   exact (h.pls k r).keep fun c z => hold c ((h.pls k r).lt c z).2 (h.off k r c z).2 (fun y => q (h.one k r _ _ c z y))
 ·intro k r c z
  by_cases q : k = m.kd ∧ r = m.rd
  ·rw [if_pos q] at z; exact hub c z
  ·rw [if_neg q] at z; exact h.off k r c z
 ·have hne : ∀ k r c, ¬ (k = m.kd ∧ r = m.rd) → u'.ownBlock = some c → (sl k r).ownBlock = some c → False := fun k r c q z y => by
   rcases hu with e | ⟨k', e, hk⟩
   ·rw [e] at z; exact q (h.one _ _ _ _ c y z)
   ·rw [e] at z
    injection z with z
    subst z
    have := ((h.pls k r).lt _ y).2
    omega
  intro k r k' r' c z y
  by_cases q : k = m.kd ∧ r = m.rd <;> by_cases q' : k' = m.kd ∧ r' = m.rd
  ·exact ⟨q.1.trans q'.1.symm, q.2.trans q'.2.symm⟩
  ·rw [if_pos q] at z; rw [if_neg q'] at y; exact (hne k' r' c q' z y).elim
  ·rw [if_neg q] at z; rw [if_pos q'] at y; exact (hne k r c q y z).elim
  ·rw [if_neg q] at z; rw [if_neg q'] at y; exact h.one k r k' r' c z y
 ·refine ⟨hg.os.trans hc.os, hg.tape.trans hc.tape, hg.output.trans hc.output, Nat.le_trans hc.size hg.size, fun c h1 h2 => hold c h1 (fun q => h2 (.inr (.inl q))) (fun q => h2 (.inr (.inr ⟨_, _, q⟩)))⟩
 ·rintro c (rfl | rfl | ⟨k, r, z⟩)
  ·exact .inl (.inl rfl)
  ·exact .inl (.inr (.inl rfl))
  ·have z : (if k = m.kd ∧ r = m.rd then u' else sl k r).ownBlock = some c := z
   by_cases q : k = m.kd ∧ r = m.rd
   ·rw [if_pos q] at z
    rcases hu with e | ⟨k', e, hk⟩
    ·rw [e] at z; exact .inl (.inr (.inr ⟨_, _, z⟩))
    ·rw [e] at z
     injection z with z
     exact .inr (by omega)
   ·rw [if_neg q] at z; exact .inl (.inr (.inr ⟨k, r, z⟩))
/-- What Put leaves. -/
def PutP (N T : Nat) (L : List Vt) (m : Vt) (b bm : Nat) (sl : Int → Int → Value) (w : World) (e : Ending) (w' : World) : Prop :=
 ∃ sl', e = .returned (.bool (okV N L m)) ∧ VB w' b bm sl' N T (putV N L m) ∧ Chg (vbG b bm sl) w w' ∧ Sub (vbG b bm sl') (vbG b bm sl) w
theorem vput_same {N T : Nat} {L : List Vt} {m : Vt} {b bm : Nat} {sl : Int → Int → Value} {w w' : World} (h : VB w b bm sl N T L) (hn : okV N L m = false) (hx : Ext w w') : PutP N T L m b bm sl w (.returned (.bool false)) w' :=
 ⟨sl, by rw [hn], by rw [put_no hn]; exact h.ext hx, Chg.of_ext _ hx, Sub.refl _ _⟩
set_option maxHeartbeats 1000000 in
theorem vput_bad {b bm : Nat} {sl : Int → Int → Value} {N T : Nat} {L : List Vt} (m : Vt) (hm : mayV N m = false) (w : World) (h : VB w b bm sl N T L) : Calls Try.prog 41 #[.pointer (some ⟨b, 0, none⟩), wv m] w fun e w' => PutP N T L m b bm sl w e w' := by
 have HV : Hid (VB w b bm sl N T L) := h
 have Hn : Hid (okV N L m = false) := by show _ = _; unfold okV; rw [hm]; rfl
 have Hm : Hid (mayV N m = false) := hm
 have HX0 : Hid (Ext w (w.alloc (.cells #[.int .i64 m.kd, .int .i64 m.fr, .int .i64 m.rd, .int .i64 m.va, .string m.vl] 39))) := (Ext.refl w).alloc _
 clear h hm
 go_enter Try.func41, Try.ntmps41
 go_wp2_with fail
 refine (vmay_any m _ (HV.out.ext HX0.out)).mono ?_
 rintro e w1 ⟨rfl, HX⟩
 rw [Hm.out]
 have HX1 : Hid (Ext w w1) := HX0.out.trans HX
 clear HX HX0
 go_wp2
 go_ret
 exact vput_same HV.out Hn.out HX1.out
/-- While a word is put: the word's block, the place's, the box's. -/
structure PB (w : World) (F : Nat) (kd rd va : Int) (vl : ByteArray) (s g : Nat) (cs : Array Value) (wx : World) : Prop where
 wd : Blk wx w.heap.size 5 (fun j => if j = 0 then .int .i64 kd else if j = 1 then .int .i64 (F : Int) else if j = 2 then .int .i64 rd else if j = 3 then .int .i64 va else .string vl)
 pc : Blk wx s 2 (fun j => if j = 0 then .int .i64 kd else .int .i64 rd)
 bx : wx.heap[g]? = some (.cells cs 91 (0, 0))
 hs : w.heap.size < s
 hg : s < g
theorem PB.keep {w : World} {F : Nat} {kd rd va : Int} {vl : ByteArray} {s g : Nat} {cs : Array Value} {wx wy : World} (h : PB w F kd rd va vl s g cs wx) (hsz : wx.heap.size ≤ wy.heap.size) (hk : ∀ k, w.heap.size ≤ k → k < wx.heap.size → wy.heap[k]? = wx.heap[k]?) : PB w F kd rd va vl s g cs wy :=
 ⟨h.wd.keep hsz (hk _ (Nat.le_refl _) h.wd.1), h.pc.keep hsz (hk _ (Nat.le_of_lt h.hs) h.pc.1), (hk g (by have := h.hs; have := h.hg; omega) (Array.getElem?_eq_some_iff.1 h.bx).1).trans h.bx, h.hs, h.hg⟩
theorem PB.ext {w : World} {F : Nat} {kd rd va : Int} {vl : ByteArray} {s g : Nat} {cs : Array Value} {wx wy : World} (h : PB w F kd rd va vl s g cs wx) (hx : Ext wx wy) : PB w F kd rd va vl s g cs wy := h.keep hx.size fun k _ q => Below.block hx k q
/-- A cell of the box is set. -/
theorem PB.set {w : World} {F : Nat} {kd rd va : Int} {vl : ByteArray} {s g : Nat} {cs : Array Value} {wx : World} (h : PB w F kd rd va vl s g cs wx) (j : Nat) (u : Value) : PB w F kd rd va vl s g (cs.setIfInBounds j u) (wx.setCell ⟨g, j, none⟩ u) :=
 ⟨h.wd.st (by have := h.hs; have := h.hg; omega), h.pc.st (by have := h.hg; omega), heap_setCell_same wx g j cs 91 u h.bx, h.hs, h.hg⟩
theorem bcs_set (L : List Vt) (m : Vt) (F : Nat) (hF : m.fr = (F : Int)) (h8 : F < 8) (p p' : Option Addr) (n c n' c' : Nat) : ((bcs (vf L m.kd m.rd) p n c).setIfInBounds F (.bool true)).setIfInBounds 8 (.slice p' n' c') = bcs (vf (L ++ [m]) m.kd m.rd) p' n' c' := by
 have e : ∀ i : Nat, vf (L ++ [m]) m.kd m.rd i = (vf L m.kd m.rd i || decide (F = i)) := fun i => by
  unfold vf
  rw [hasV_snoc]
  congr 1
  rw [decide_eq_decide, hF]
  exact ⟨fun z => by omega, fun z => ⟨rfl, rfl, by omega⟩⟩
 unfold bcs
 simp only [e]
 have : F = 0 ∨ F = 1 ∨ F = 2 ∨ F = 3 ∨ F = 4 ∨ F = 5 ∨ F = 6 ∨ F = 7 := by omega
 rcases this with rfl | rfl | rfl | rfl | rfl | rfl | rfl | rfl <;> simp
theorem bcs_last (f : Nat → Bool) (p : Option Addr) (n c F : Nat) (h8 : F < 8) : ((bcs f p n c).setIfInBounds F (.bool true))[8]? = some (.slice p n c) := by
 have : F = 0 ∨ F = 1 ∨ F = 2 ∨ F = 3 ∨ F = 4 ∨ F = 5 ∨ F = 6 ∨ F = 7 := by omega
 rcases this with rfl | rfl | rfl | rfl | rfl | rfl | rfl | rfl <;> rfl
/-- What the last step reads. -/
structure SU (b bm s g : Nat) (kd rd : Int) (cs : Array Value) (wx : World) : Prop where
 m : wx.cell? ⟨b, 2, none⟩ = some (.map (some bm))
 hb : b < wx.heap.size
 k : wx.cell? ⟨s, 0, none⟩ = some (.int .i64 kd)
 r : wx.cell? ⟨s, 1, none⟩ = some (.int .i64 rd)
 hs : s < wx.heap.size
 x : wx.heap[g]? = some (.cells cs 91 (0, 0))
theorem und53 : ∃ fs, Try.prog.underlying 91 = some (.struct fs) := ⟨_, Try.underlying91⟩
set_option maxRecDepth 10000 in
set_option maxHeartbeats 4000000 in
theorem vput_had {b bm : Nat} {sl : Int → Int → Value} {N T : Nat} {L : List Vt} (F : Nat) (kd rd va : Int) (vl : ByteArray) (hN : N ≤ 7) (hm : mayV N ⟨kd, (F : Int), rd, va, vl⟩ = true) (hh : hasV L kd rd (F : Int) = true) (hk : (Lit.int .i64 kd).wf = true) (hr : (Lit.int .i64 rd).wf = true) (w : World) (h : VB w b bm sl N T L) :
  Calls Try.prog 41 #[.pointer (some ⟨b, 0, none⟩), .agg #[.int .i64 kd, .int .i64 (F : Int), .int .i64 rd, .int .i64 va, .string vl]] w fun e w' => PutP N T L ⟨kd, (F : Int), rd, va, vl⟩ b bm sl w e w' := by
 have Hn : Hid (okV N L ⟨kd, (F : Int), rd, va, vl⟩ = false) := by show _ = _; unfold okV; rw [hh]; simp
 have hvf : vf L kd rd F = true := hh
 clear hh
 have HV : Hid (VB w b bm sl N T L) := h
 have Hk : Hid ((Lit.int .i64 kd).wf = true) := hk
 have Hr : Hid ((Lit.int .i64 rd).wf = true) := hr
 have Hm : Hid (mayV N ⟨kd, (F : Int), rd, va, vl⟩ = true) := hm
 have hF8 : F < 8 := by have := (may_iffV.1 hm).2.2.1; simp at this; omega
 obtain ⟨p, c, hu⟩ := own_len (h.pls kd rd)
 obtain ⟨n, hn⟩ : ∃ n, (pls L kd rd).length = n := ⟨_, rfl⟩
 rw [hn] at hu
 have HC : Hid (∀ wx, Ext w wx → wx.cell? ⟨b, 2, none⟩ = some (.map (some bm)) ∧ b < wx.heap.size) := fun wx hx => by
  obtain ⟨_, _, q2, q3⟩ := vbx (HV.out.ext hx)
  exact ⟨q2, q3⟩
 have HL : Hid (∀ wx, Ext w wx → (Instr.lookup 76 (.map (some bm)) (.agg #[.int .i64 kd, .int .i64 rd]) false).run Try.prog wx = .ok (.agg #[.bool (vf L kd rd 0), .bool (vf L kd rd 1), .bool (vf L kd rd 2), .bool (vf L kd rd 3), .bool (vf L kd rd 4), .bool (vf L kd rd 5), .bool (vf L kd rd 6), .bool (vf L kd rd 7), .slice p n c]) wx) := fun wx hx => by rw [(HV.out.ext hx).look hk hr, hu]
 have HX0 : Hid (Ext w (w.alloc (.cells #[.int .i64 kd, .int .i64 (F : Int), .int .i64 rd, .int .i64 va, .string vl] 39))) := (Ext.refl w).alloc _
 have HW0 : Hid (Blk (w.alloc (.cells #[.int .i64 kd, .int .i64 (F : Int), .int .i64 rd, .int .i64 va, .string vl] 39)) w.heap.size 5 (fun j => if j = 0 then .int .i64 kd else if j = 1 then .int .i64 (F : Int) else if j = 2 then .int .i64 rd else if j = 3 then .int .i64 va else .string vl)) := Blk.new w _ _ (fun j hj => by
  have : j = 0 ∨ j = 1 ∨ j = 2 ∨ j = 3 ∨ j = 4 := by omega
  rcases this with rfl | rfl | rfl | rfl | rfl <;> rfl)
 have Hu : Hid (sl kd rd = .slice p n c) := hu
 clear h hk hr hm hu hn
 go_enter Try.func41, Try.ntmps41
 go_wp2_with fail
 refine (vmay_any ⟨kd, (F : Int), rd, va, vl⟩ _ (HV.out.ext HX0.out)).mono ?_
 rintro e w1 ⟨rfl, HX⟩
 rw [Hm.out]
 have HX1 : Hid (Ext w w1) := HX0.out.trans HX
 have HW1 : Hid (Blk w1 w.heap.size 5 (fun j => if j = 0 then .int .i64 kd else if j = 1 then .int .i64 (F : Int) else if j = 2 then .int .i64 rd else if j = 3 then .int .i64 va else .string vl)) := HW0.out.ext HX
 have d0 : w1.cell? ⟨w.heap.size, 0, none⟩ = some (.int .i64 kd) := (HW1.out.2 0 (by decide)).1
 have d2 : w1.cell? ⟨w.heap.size, 2, none⟩ = some (.int .i64 rd) := (HW1.out.2 2 (by decide)).1
 have dl := HW1.out.1
 clear HX HX0 HW0
 go_upto_region 4 with fail
 clear d0 d2 dl
 have HX2 : Hid (Ext w (w1.alloc (.cells #[.int .i64 kd, .int .i64 rd] 87))) := HX1.out.alloc _
 have HW2 : Hid (Blk (w1.alloc (.cells #[.int .i64 kd, .int .i64 rd] 87)) w.heap.size 5 (fun j => if j = 0 then .int .i64 kd else if j = 1 then .int .i64 (F : Int) else if j = 2 then .int .i64 rd else if j = 3 then .int .i64 va else .string vl)) := HW1.out.ext ((Ext.refl w1).alloc _)
 have HP2 : Hid (Blk (w1.alloc (.cells #[.int .i64 kd, .int .i64 rd] 87)) w1.heap.size 2 (fun j => if j = 0 then .int .i64 kd else .int .i64 rd)) := Blk.new w1 _ _ (fun j hj => by
  have : j = 0 ∨ j = 1 := by omega
  rcases this with rfl | rfl <;> rfl)
 have Hs : Hid (w.heap.size < w1.heap.size) := HW1.out.1
 have Hs2 : Hid ((w1.alloc (.cells #[.int .i64 kd, .int .i64 rd] 87)).heap.size = w1.heap.size + 1) := by show _ = _; simp
 generalize w1.alloc (.cells #[.int .i64 kd, .int .i64 rd] 87) = W2 at *
 generalize w1.heap.size = s at *
 clear HX1 HW1
 go_cut [6] (fun u6 wx => ∃ g : Nat, u6 = .pointer (some ⟨g, 0, none⟩) ∧ Hid (Ext w wx ∧ PB w F kd rd va vl s g #[.bool (vf L kd rd 0), .bool (vf L kd rd 1), .bool (vf L kd rd 2), .bool (vf L kd rd 3), .bool (vf L kd rd 4), .bool (vf L kd rd 5), .bool (vf L kd rd 6), .bool (vf L kd rd 7), .slice p n c] wx))
 case first =>
  have k0 : W2.cell? ⟨s, 0, none⟩ = some (.int .i64 kd) := (HP2.out.2 0 (by decide)).1
  have k1 : W2.cell? ⟨s, 1, none⟩ = some (.int .i64 rd) := (HP2.out.2 1 (by decide)).1
  have ks := HP2.out.1
  have HS : Ext W2 W2.drew := (Ext.refl W2).drew
  refine wp_region_noPanic ?_
  refine wp_region_held (S := Ext W2) (by kernel_rfl) ?_
  rw [show ({ W2 with drawn := W2.drawn + 1 } : World) = W2.drew from rfl]
  generalize W2.drew = x0 at *
  refine takeH (i := 0) (v := ?va0) ?hya0 HS ?resta0
  case hya0 => (intro wx hSx; go_simp; try with_reducible rfl)
  try simp only [sx]
  refine takeH (i := 1) (v := ?va1) ?hya1 HS ?resta1
  case hya1 => (intro wx hSx; go_simp; try with_reducible rfl)
  try simp only [sx]
  refine takeH (i := 2) (v := ?va2) ?hya2 HS ?resta2
  case hya2 => (intro wx hSx; go_simp; try with_reducible rfl)
  try simp only [sx]
  refine takeH (i := 3) (v := ?va3) ?hya3 HS ?resta3
  case hya3 => (intro wx hSx; obtain ⟨q2, q3⟩ := HC.out _ (HX2.out.trans hSx); go_simp; try with_reducible rfl)
  try simp only [sx]
  refine takeH (i := 4) (v := ?va4) ?hya4 HS ?resta4
  case hya4 => (intro wx hSx; have z0 := later hSx k0; have z1 := later hSx k1; have z2 := Nat.lt_of_lt_of_le ks hSx.size; go_simp; try with_reducible rfl)
  try simp only [sx]
  refine takeH (i := 5) (v := ?va5) ?hya5 HS ?resta5
  case hya5 => (intro wx hSx; have hl := HL.out _ (HX2.out.trans hSx); go_simp; try with_reducible rfl)
  try simp only [sx]
  refine held_one (i := 6) (by kernel_rfl) rfl rfl (fun K hK => ?_)
  go_simp
  have H1 := HS.alloc (.cells #[.bool false, .bool false, .bool false, .bool false, .bool false, .bool false, .bool false, .bool false, .slice none 0 0] 91)
  have B1 := heap_alloc_new x0 (.cells #[.bool false, .bool false, .bool false, .bool false, .bool false, .bool false, .bool false, .bool false, .slice none 0 0] 91)
  have M1 : W2.heap.size ≤ x0.heap.size := HS.size
  generalize x0.alloc (.cells #[.bool false, .bool false, .bool false, .bool false, .bool false, .bool false, .bool false, .bool false, .slice none 0 0] 91) = x1 at *
  generalize hg1 : x0.heap.size = g1 at *
  try go_simp
  refine hK.out _ _ ⟨H1, ?_⟩
  clear hK K
  try simp only [sx]
  refine held_one (i := 7) (by kernel_rfl) rfl rfl (fun K hK => ?_)
  refine wp_store_row 91 (.tmp 6) (.tmp 25) rfl g1 #[.bool (vf L kd rd 0), .bool (vf L kd rd 1), .bool (vf L kd rd 2), .bool (vf L kd rd 3), .bool (vf L kd rd 4), .bool (vf L kd rd 5), .bool (vf L kd rd 6), .bool (vf L kd rd 7), .slice p n c] rfl rfl 91 _ B1 size53 rfl (bcs_one _ _ _ _) ?_
  have H2 := H1.row (b := g1) M1 #[.bool (vf L kd rd 0), .bool (vf L kd rd 1), .bool (vf L kd rd 2), .bool (vf L kd rd 3), .bool (vf L kd rd 4), .bool (vf L kd rd 5), .bool (vf L kd rd 6), .bool (vf L kd rd 7), .slice p n c]
  have S2 := setRow_heap x1 g1 _ #[.bool (vf L kd rd 0), .bool (vf L kd rd 1), .bool (vf L kd rd 2), .bool (vf L kd rd 3), .bool (vf L kd rd 4), .bool (vf L kd rd 5), .bool (vf L kd rd 6), .bool (vf L kd rd 7), .slice p n c] 91 (0, 0) B1
  generalize x1.setRow g1 #[.bool (vf L kd rd 0), .bool (vf L kd rd 1), .bool (vf L kd rd 2), .bool (vf L kd rd 3), .bool (vf L kd rd 4), .bool (vf L kd rd 5), .bool (vf L kd rd 6), .bool (vf L kd rd 7), .slice p n c] = x2 at *
  skip
  refine hK.out _ _ ⟨H2, ?_⟩
  clear hK K
  try simp only [sx]
  refine wpAnyH_done (by kernel_rfl) ?_ _
  refine NoPanic.normal ?_
  go_wp2_with fail
  go_meet
  case rel => exact ⟨g1, rfl, HX2.out.trans H2, ⟨HW2.out.ext H2, HP2.out.ext H2, S2, Hs.out, by have := Hs2.out; omega⟩⟩
 case rest =>
  obtain ⟨g, rfl, HB⟩ := hcut
  clear HW2 HP2 HX2 HL Hs2
  have d1 : wc.cell? ⟨w.heap.size, 1, none⟩ = some (.int .i64 (F : Int)) := (HB.out.2.wd.2 1 (by decide)).1
  have dl := HB.out.2.wd.1
  have hgl : g < wc.heap.size := (Array.getElem?_eq_some_iff.1 HB.out.2.bx).1
  have q8 : (F : Int) < 8 := by omega
  have q0 : (0 : Int) ≤ (F : Int) := by omega
  have vF : wc.cell? ⟨g, F, none⟩ = some (.bool (vf L kd rd F)) := by rw [cell_of_row _ _ _ _ _ _ HB.out.2.bx]; exact bcs_get _ _ _ _ hF8
  rw [hvf] at vF
  clear hvf
  go_wp2
  go_ret
  exact vput_same HV.out Hn.out HB.out.1
set_option maxRecDepth 10000 in
set_option maxHeartbeats 4000000 in
theorem vput_ok {b bm : Nat} {sl : Int → Int → Value} {N T : Nat} {L : List Vt} (F : Nat) (kd rd va : Int) (vl : ByteArray) (hi : InvV N L) (hN : N ≤ 7) (hlen : L.length ≤ 1000) (hm : mayV N ⟨kd, (F : Int), rd, va, vl⟩ = true) (hh : hasV L kd rd (F : Int) = false) (hk : (Lit.int .i64 kd).wf = true) (hr : (Lit.int .i64 rd).wf = true) (w : World) (h : VB w b bm sl N T L) :
  Calls Try.prog 41 #[.pointer (some ⟨b, 0, none⟩), .agg #[.int .i64 kd, .int .i64 (F : Int), .int .i64 rd, .int .i64 va, .string vl]] w fun e w' => PutP N T L ⟨kd, (F : Int), rd, va, vl⟩ b bm sl w e w' := by
 have Hn : Hid (okV N L ⟨kd, (F : Int), rd, va, vl⟩ = true) := by show _ = _; unfold okV; rw [hm, hh]; rfl
 have hvf : vf L kd rd F = false := hh
 have Hi : Hid (InvV N L) := hi
 have HN : Hid (N ≤ 7) := hN
 have Hlen : Hid (L.length ≤ 1000) := hlen
 have Hv : Hid (vl.size ≤ 4096) := (may_iffV.1 hm).2.2.2.2.2
 clear hh hi hlen
 have HV : Hid (VB w b bm sl N T L) := h
 have Hk : Hid ((Lit.int .i64 kd).wf = true) := hk
 have Hr : Hid ((Lit.int .i64 rd).wf = true) := hr
 have Hm : Hid (mayV N ⟨kd, (F : Int), rd, va, vl⟩ = true) := hm
 have hF8 : F < 8 := by have := (may_iffV.1 hm).2.2.1; simp at this; omega
 obtain ⟨p, c, hu⟩ := own_len (h.pls kd rd)
 obtain ⟨n, hn⟩ : ∃ n, (pls L kd rd).length = n := ⟨_, rfl⟩
 rw [hn] at hu
 have HC : Hid (∀ wx, Ext w wx → wx.cell? ⟨b, 2, none⟩ = some (.map (some bm)) ∧ b < wx.heap.size) := fun wx hx => by
  obtain ⟨_, _, q2, q3⟩ := vbx (HV.out.ext hx)
  exact ⟨q2, q3⟩
 have HL : Hid (∀ wx, Ext w wx → (Instr.lookup 76 (.map (some bm)) (.agg #[.int .i64 kd, .int .i64 rd]) false).run Try.prog wx = .ok (.agg #[.bool (vf L kd rd 0), .bool (vf L kd rd 1), .bool (vf L kd rd 2), .bool (vf L kd rd 3), .bool (vf L kd rd 4), .bool (vf L kd rd 5), .bool (vf L kd rd 6), .bool (vf L kd rd 7), .slice p n c]) wx) := fun wx hx => by rw [(HV.out.ext hx).look hk hr, hu]
 have HX0 : Hid (Ext w (w.alloc (.cells #[.int .i64 kd, .int .i64 (F : Int), .int .i64 rd, .int .i64 va, .string vl] 39))) := (Ext.refl w).alloc _
 have HW0 : Hid (Blk (w.alloc (.cells #[.int .i64 kd, .int .i64 (F : Int), .int .i64 rd, .int .i64 va, .string vl] 39)) w.heap.size 5 (fun j => if j = 0 then .int .i64 kd else if j = 1 then .int .i64 (F : Int) else if j = 2 then .int .i64 rd else if j = 3 then .int .i64 va else .string vl)) := Blk.new w _ _ (fun j hj => by
  have : j = 0 ∨ j = 1 ∨ j = 2 ∨ j = 3 ∨ j = 4 := by omega
  rcases this with rfl | rfl | rfl | rfl | rfl <;> rfl)
 have Hu : Hid (sl kd rd = .slice p n c) := hu
 clear h hk hr hm hu hn
 go_enter Try.func41, Try.ntmps41
 go_wp2_with fail
 refine (vmay_any ⟨kd, (F : Int), rd, va, vl⟩ _ (HV.out.ext HX0.out)).mono ?_
 rintro e w1 ⟨rfl, HX⟩
 rw [Hm.out]
 have HX1 : Hid (Ext w w1) := HX0.out.trans HX
 have HW1 : Hid (Blk w1 w.heap.size 5 (fun j => if j = 0 then .int .i64 kd else if j = 1 then .int .i64 (F : Int) else if j = 2 then .int .i64 rd else if j = 3 then .int .i64 va else .string vl)) := HW0.out.ext HX
 have d0 : w1.cell? ⟨w.heap.size, 0, none⟩ = some (.int .i64 kd) := (HW1.out.2 0 (by decide)).1
 have d2 : w1.cell? ⟨w.heap.size, 2, none⟩ = some (.int .i64 rd) := (HW1.out.2 2 (by decide)).1
 have dl := HW1.out.1
 clear HX HX0 HW0
 go_upto_region 4 with fail
 clear d0 d2 dl
 have HX2 : Hid (Ext w (w1.alloc (.cells #[.int .i64 kd, .int .i64 rd] 87))) := HX1.out.alloc _
 have HW2 : Hid (Blk (w1.alloc (.cells #[.int .i64 kd, .int .i64 rd] 87)) w.heap.size 5 (fun j => if j = 0 then .int .i64 kd else if j = 1 then .int .i64 (F : Int) else if j = 2 then .int .i64 rd else if j = 3 then .int .i64 va else .string vl)) := HW1.out.ext ((Ext.refl w1).alloc _)
 have HP2 : Hid (Blk (w1.alloc (.cells #[.int .i64 kd, .int .i64 rd] 87)) w1.heap.size 2 (fun j => if j = 0 then .int .i64 kd else .int .i64 rd)) := Blk.new w1 _ _ (fun j hj => by
  have : j = 0 ∨ j = 1 := by omega
  rcases this with rfl | rfl <;> rfl)
 have Hs : Hid (w.heap.size < w1.heap.size) := HW1.out.1
 have Hs2 : Hid ((w1.alloc (.cells #[.int .i64 kd, .int .i64 rd] 87)).heap.size = w1.heap.size + 1) := by show _ = _; simp
 generalize w1.alloc (.cells #[.int .i64 kd, .int .i64 rd] 87) = W2 at *
 generalize w1.heap.size = s at *
 clear HX1 HW1
 go_cut [6] (fun u6 wx => ∃ g : Nat, u6 = .pointer (some ⟨g, 0, none⟩) ∧ Hid (Ext w wx ∧ PB w F kd rd va vl s g #[.bool (vf L kd rd 0), .bool (vf L kd rd 1), .bool (vf L kd rd 2), .bool (vf L kd rd 3), .bool (vf L kd rd 4), .bool (vf L kd rd 5), .bool (vf L kd rd 6), .bool (vf L kd rd 7), .slice p n c] wx))
 case first =>
  have k0 : W2.cell? ⟨s, 0, none⟩ = some (.int .i64 kd) := (HP2.out.2 0 (by decide)).1
  have k1 : W2.cell? ⟨s, 1, none⟩ = some (.int .i64 rd) := (HP2.out.2 1 (by decide)).1
  have ks := HP2.out.1
  have HS : Ext W2 W2.drew := (Ext.refl W2).drew
  refine wp_region_noPanic ?_
  refine wp_region_held (S := Ext W2) (by kernel_rfl) ?_
  rw [show ({ W2 with drawn := W2.drawn + 1 } : World) = W2.drew from rfl]
  generalize W2.drew = x0 at *
  refine takeH (i := 0) (v := ?va0) ?hya0 HS ?resta0
  case hya0 => (intro wx hSx; go_simp; try with_reducible rfl)
  try simp only [sx]
  refine takeH (i := 1) (v := ?va1) ?hya1 HS ?resta1
  case hya1 => (intro wx hSx; go_simp; try with_reducible rfl)
  try simp only [sx]
  refine takeH (i := 2) (v := ?va2) ?hya2 HS ?resta2
  case hya2 => (intro wx hSx; go_simp; try with_reducible rfl)
  try simp only [sx]
  refine takeH (i := 3) (v := ?va3) ?hya3 HS ?resta3
  case hya3 => (intro wx hSx; obtain ⟨q2, q3⟩ := HC.out _ (HX2.out.trans hSx); go_simp; try with_reducible rfl)
  try simp only [sx]
  refine takeH (i := 4) (v := ?va4) ?hya4 HS ?resta4
  case hya4 => (intro wx hSx; have z0 := later hSx k0; have z1 := later hSx k1; have z2 := Nat.lt_of_lt_of_le ks hSx.size; go_simp; try with_reducible rfl)
  try simp only [sx]
  refine takeH (i := 5) (v := ?va5) ?hya5 HS ?resta5
  case hya5 => (intro wx hSx; have hl := HL.out _ (HX2.out.trans hSx); go_simp; try with_reducible rfl)
  try simp only [sx]
  refine held_one (i := 6) (by kernel_rfl) rfl rfl (fun K hK => ?_)
  go_simp
  have H1 := HS.alloc (.cells #[.bool false, .bool false, .bool false, .bool false, .bool false, .bool false, .bool false, .bool false, .slice none 0 0] 91)
  have B1 := heap_alloc_new x0 (.cells #[.bool false, .bool false, .bool false, .bool false, .bool false, .bool false, .bool false, .bool false, .slice none 0 0] 91)
  have M1 : W2.heap.size ≤ x0.heap.size := HS.size
  generalize x0.alloc (.cells #[.bool false, .bool false, .bool false, .bool false, .bool false, .bool false, .bool false, .bool false, .slice none 0 0] 91) = x1 at *
  generalize hg1 : x0.heap.size = g1 at *
  try go_simp
  refine hK.out _ _ ⟨H1, ?_⟩
  clear hK K
  try simp only [sx]
  refine held_one (i := 7) (by kernel_rfl) rfl rfl (fun K hK => ?_)
  refine wp_store_row 91 (.tmp 6) (.tmp 25) rfl g1 #[.bool (vf L kd rd 0), .bool (vf L kd rd 1), .bool (vf L kd rd 2), .bool (vf L kd rd 3), .bool (vf L kd rd 4), .bool (vf L kd rd 5), .bool (vf L kd rd 6), .bool (vf L kd rd 7), .slice p n c] rfl rfl 91 _ B1 size53 rfl (bcs_one _ _ _ _) ?_
  have H2 := H1.row (b := g1) M1 #[.bool (vf L kd rd 0), .bool (vf L kd rd 1), .bool (vf L kd rd 2), .bool (vf L kd rd 3), .bool (vf L kd rd 4), .bool (vf L kd rd 5), .bool (vf L kd rd 6), .bool (vf L kd rd 7), .slice p n c]
  have S2 := setRow_heap x1 g1 _ #[.bool (vf L kd rd 0), .bool (vf L kd rd 1), .bool (vf L kd rd 2), .bool (vf L kd rd 3), .bool (vf L kd rd 4), .bool (vf L kd rd 5), .bool (vf L kd rd 6), .bool (vf L kd rd 7), .slice p n c] 91 (0, 0) B1
  generalize x1.setRow g1 #[.bool (vf L kd rd 0), .bool (vf L kd rd 1), .bool (vf L kd rd 2), .bool (vf L kd rd 3), .bool (vf L kd rd 4), .bool (vf L kd rd 5), .bool (vf L kd rd 6), .bool (vf L kd rd 7), .slice p n c] = x2 at *
  skip
  refine hK.out _ _ ⟨H2, ?_⟩
  clear hK K
  try simp only [sx]
  refine wpAnyH_done (by kernel_rfl) ?_ _
  refine NoPanic.normal ?_
  go_wp2_with fail
  go_meet
  case rel => exact ⟨g1, rfl, HX2.out.trans H2, ⟨HW2.out.ext H2, HP2.out.ext H2, S2, Hs.out, by have := Hs2.out; omega⟩⟩
 case rest =>
  obtain ⟨g, rfl, HB⟩ := hcut
  clear HW2 HP2 HX2 HL Hs2
  have d1 : wc.cell? ⟨w.heap.size, 1, none⟩ = some (.int .i64 (F : Int)) := (HB.out.2.wd.2 1 (by decide)).1
  have dl := HB.out.2.wd.1
  have hgl : g < wc.heap.size := (Array.getElem?_eq_some_iff.1 HB.out.2.bx).1
  have q8 : (F : Int) < 8 := by omega
  have q0 : (0 : Int) ≤ (F : Int) := by omega
  have vF : wc.cell? ⟨g, F, none⟩ = some (.bool (vf L kd rd F)) := by rw [cell_of_row _ _ _ _ _ _ HB.out.2.bx]; exact bcs_get _ _ _ _ hF8
  rw [hvf] at vF
  clear hvf
  have fF : wc.frozen? ⟨g, F, none⟩ = false := frozen_of_row wc g F _ 91 HB.out.2.bx
  have HB3 : Hid (Ext w (wc.setCell ⟨g, F, none⟩ (.bool true)) ∧ PB w F kd rd va vl s g ((#[.bool (vf L kd rd 0), .bool (vf L kd rd 1), .bool (vf L kd rd 2), .bool (vf L kd rd 3), .bool (vf L kd rd 4), .bool (vf L kd rd 5), .bool (vf L kd rd 6), .bool (vf L kd rd 7), .slice p n c] : Array Value).setIfInBounds F (.bool true)) (wc.setCell ⟨g, F, none⟩ (.bool true))) := ⟨Ext.st (by have := HB.out.2.hs; have := HB.out.2.hg; omega) HB.out.1, HB.out.2.set F (.bool true)⟩
  have d4 : (wc.setCell ⟨g, F, none⟩ (.bool true)).cell? ⟨w.heap.size, 4, none⟩ = some (.string vl) := (HB3.out.2.wd.2 4 (by decide)).1
  have d8 : (wc.setCell ⟨g, F, none⟩ (.bool true)).cell? ⟨g, 8, none⟩ = some (.slice p n c) := by rw [cell_of_row _ _ _ _ _ _ HB3.out.2.bx]; exact bcs_last _ _ _ _ _ hF8
  have HA : Hid (Calls Try.prog 53 #[.slice p n c, .string vl] (wc.setCell ⟨g, F, none⟩ (.bool true)) fun e w' => AddP (wc.setCell ⟨g, F, none⟩ (.bool true)) (.slice p n c) (pls L kd rd) (anyV L kd rd) vl e w') := by
   have := any_le Hi.out kd rd
   have := HN.out
   refine added_any (P := pls L kd rd) _ vl pls_sum pls_nil (by omega) (by have := pls_len L kd rd; omega) (by have := Hv.out; omega) _ ?_
   have := (HV.out.ext HB3.out.1).pls kd rd
   rw [Hu.out] at this
   exact this
  go_wp2_with fail
  refine HA.out.mono ?_
  rintro e w4 ⟨u4, rfl, HP4, HC4, HU4⟩
  obtain ⟨p4, c4, rfl⟩ := own_len HP4
  generalize hn4 : (List.map (up vl) (addP (pls L kd rd) (anyV L kd rd) vl)).length = n4 at *
  have Hsl : Hid (∀ k, Value.ownBlock (.slice p n c) = some k → k < w.heap.size) := fun k q => by
   have := HV.out.pls kd rd
   rw [Hu.out] at this
   exact (this.lt k q).2
  have HB4 : Hid (PB w F kd rd va vl s g ((#[.bool (vf L kd rd 0), .bool (vf L kd rd 1), .bool (vf L kd rd 2), .bool (vf L kd rd 3), .bool (vf L kd rd 4), .bool (vf L kd rd 5), .bool (vf L kd rd 6), .bool (vf L kd rd 7), .slice p n c] : Array Value).setIfInBounds F (.bool true)) w4) := HB3.out.2.keep HC4.size fun k h1 h2 => HC4.block k h2 (fun q => by have := Hsl.out k q; omega)
  have HP4' : Hid (Pl w4 (.slice p4 n4 c4) ((addP (pls L kd rd) (anyV L kd rd) vl).map (up vl))) := HP4
  have Hcg : Hid (Chg (fun k => Value.ownBlock (.slice p n c) = some k) w w4) := (Chg.of_ext _ HB3.out.1).trans HC4 (fun k q => .inl q)
  have HU : Hid (Value.ownBlock (.slice p4 n4 c4) = Value.ownBlock (.slice p n c) ∨ ∃ k, Value.ownBlock (.slice p4 n4 c4) = some k ∧ (wc.setCell ⟨g, F, none⟩ (.bool true)).heap.size ≤ k) := HU4
  have Hgw : Hid (g < (wc.setCell ⟨g, F, none⟩ (.bool true)).heap.size) := by show _ < _; simpa using hgl
  have Hgg : Hid (w.heap.size < g) := by show _ < _; have := HB3.out.2.hs; have := HB3.out.2.hg; omega
  have Hug : Hid (Value.ownBlock (.slice p4 n4 c4) ≠ some g) := fun q => by
   rcases HU.out with e | ⟨k, e, hk⟩
   ·rw [e] at q; have := Hsl.out g q; have := Hgg.out; omega
   ·rw [e] at q; injection q with q; have := Hgw.out; omega
  have h4l : g < w4.heap.size := (Array.getElem?_eq_some_iff.1 HB4.out.bx).1
  have c48 : w4.cell? ⟨g, 8, none⟩ = some (.slice p n c) := by rw [cell_of_row _ _ _ _ _ _ HB4.out.bx]; exact bcs_last _ _ _ _ _ hF8
  have f48 : w4.frozen? ⟨g, 8, none⟩ = false := frozen_of_row w4 g 8 _ 91 HB4.out.bx
  have HB5 : Hid (PB w F kd rd va vl s g (bcs (vf (L ++ [⟨kd, (F : Int), rd, va, vl⟩]) kd rd) p4 n4 c4) (w4.setCell ⟨g, 8, none⟩ (.slice p4 n4 c4))) := by
   have := HB4.out.set 8 (.slice p4 n4 c4)
   rw [bcs_set L ⟨kd, (F : Int), rd, va, vl⟩ F rfl hF8] at this
   exact this
  have Hc5 : Hid (Chg (fun k => Value.ownBlock (.slice p n c) = some k) w (w4.setCell ⟨g, 8, none⟩ (.slice p4 n4 c4))) := Hcg.out.st (.inr (by have := Hgg.out; omega))
  have HP5 : Hid (Pl (w4.setCell ⟨g, 8, none⟩ (.slice p4 n4 c4)) (.slice p4 n4 c4) (pls (L ++ [⟨kd, (F : Int), rd, va, vl⟩]) kd rd)) := by
   show Pl _ _ _
   rw [pls_put L ⟨kd, (F : Int), rd, va, vl⟩]
   exact own_setCell HP4'.out Hug.out
  have HUw : Hid (Value.ownBlock (.slice p4 n4 c4) = Value.ownBlock (.slice p n c) ∨ ∃ k, Value.ownBlock (.slice p4 n4 c4) = some k ∧ w.heap.size ≤ k) := by
   rcases HU.out with e | ⟨k, e, hk⟩
   ·exact .inl e
   ·exact .inr ⟨k, e, by have := Hgw.out; have := Hgg.out; omega⟩
  clear HP4 HC4 HU4 hn4 HA HB4 HP4' Hcg HU Hug d4 d8 HB3 vF fF d1 Hgw
  go_upto_region 9 with fail
  clear c48 f48 h4l hgl dl HB
  generalize w4.setCell ⟨g, 8, none⟩ (.slice p4 n4 c4) = W5 at *
  have Hlt : Hid (b < w.heap.size ∧ bm < w.heap.size) := ⟨HV.out.blk.1, HV.out.map.lt⟩
  have Hb5 : Hid (Blk W5 b 3 (vg N T bm)) := HV.out.blk.keep Hc5.out.size (Hc5.out.block b Hlt.out.1 (fun q => (HV.out.off kd rd b (by rw [Hu.out]; exact q)).1 rfl))
  have Hm5 : Hid (Bm W5 bm L.length (fun k r => bx (vf L k r) (sl k r))) := HV.out.map.keep (Hc5.out.block bm Hlt.out.2 (fun q => (HV.out.off kd rd bm (by rw [Hu.out]; exact q)).2 rfl))
  obtain ⟨W6, hmu, hB6, hg6⟩ := Bm.put (w := W5.drew) Hm5.out (Nat.lt_of_le_of_lt Hlen.out (by decide)) Hk.out Hr.out (.agg (bcs (vf (L ++ [⟨kd, (F : Int), rd, va, vl⟩]) kd rd) p4 n4 c4))
  have HEnd : Hid (PutP N T L ⟨kd, (F : Int), rd, va, vl⟩ b bm sl w (.returned (.bool true)) W6) := by
   have hg5 : W5.grownBy W6 (some bm) := ⟨hg6.os, hg6.tape, hg6.output, hg6.size, hg6.block⟩
   have := vb_put HV.out ⟨kd, (F : Int), rd, va, vl⟩ (.slice p4 n4 c4) (W5 := W5) (W6 := W6) (by show Chg (fun k => (sl kd rd).ownBlock = some k) w W5; rw [Hu.out]; exact Hc5.out) HP5.out (by show _ = (sl kd rd).ownBlock ∨ _; rw [Hu.out]; exact HUw.out) hB6 hg5
   exact ⟨_, by rw [Hn.out], by rw [put_ok Hn.out]; exact this.1, this.2.1, this.2.2⟩
  have HS : SU b bm s g kd rd (bcs (vf (L ++ [⟨kd, (F : Int), rd, va, vl⟩]) kd rd) p4 n4 c4) W5.drew := ⟨(Hb5.out.2 2 (by decide)).1, Hb5.out.1, (HB5.out.pc.2 0 (by decide)).1, (HB5.out.pc.2 1 (by decide)).1, HB5.out.pc.1, HB5.out.bx⟩
  clear hB6 hg6 Hb5 Hm5 Hlt HB5 HUw HP5 Hc5 Hsl Hgg Hv Hlen HN Hi HV Hn Hk Hr Hm HC Hu Hs
  generalize vf (L ++ [⟨kd, (F : Int), rd, va, vl⟩]) kd rd = f5 at *
  refine wp_region_noPanic ?_
  refine wp_region_until (X := 6) (S := SU b bm s g kd rd (bcs f5 p4 n4 c4)) (by kernel_rfl) ?_
  obtain ⟨y0, hy0⟩ : ∃ y0, W5.drew = y0 := ⟨_, rfl⟩
  rw [hy0] at HS hmu ⊢
  clear hy0
  refine takeU (i := 0) (v := ?vu0) ?hyu0 HS ?restu0
  case hyu0 => (intro w hSw; go_simp; try with_reducible rfl)
  try simp only [sx]
  refine takeU (i := 1) (v := ?vu1) ?hyu1 HS ?restu1
  case hyu1 => (intro w hSw; go_simp; try with_reducible rfl)
  try simp only [sx]
  refine takeU (i := 2) (v := ?vu2) ?hyu2 HS ?restu2
  case hyu2 => (intro w hSw; go_simp; try with_reducible rfl)
  try simp only [sx]
  refine takeU (i := 3) (v := ?vu3) ?hyu3 HS ?restu3
  case hyu3 => (intro w hSw; obtain ⟨q1, q2, q3, q4, q5, q6⟩ := hSw; go_simp; try with_reducible rfl)
  try simp only [sx]
  refine takeU (i := 4) (v := ?vu4) ?hyu4 HS ?restu4
  case hyu4 => (intro w hSw; obtain ⟨q1, q2, q3, q4, q5, q6⟩ := hSw; go_simp; try with_reducible rfl)
  try simp only [sx]
  refine takeU (i := 5) (v := ?vu5) ?hyu5 HS ?restu5
  case hyu5 => (intro w hSw; refine exec_load9 91 (.tmp 6) ?_ g ?_ 91 (bcs f5 p4 n4 c4) (0, 0) _ hSw.x Try.underlying91 ?_ size53 <;> rfl)
  try simp only [sx]
  refine until_last (by kernel_rfl) (by kernel_rfl) rfl rfl (fun K hK => ?_)
  go_simp
  refine hK.out _ _ (NoPanic.normal ?_)
  clear hK K
  try simp only [sx]
  clear hmu HS
  go_wp2
  go_ret
  exact HEnd.out
/-- Put, whatever the word. -/
theorem vput_any {b bm : Nat} {sl : Int → Int → Value} {N T : Nat} {L : List Vt} (m : Vt) (hi : InvV N L) (hN : N ≤ 7) (hlen : L.length ≤ 1000) (hk : (Lit.int .i64 m.kd).wf = true) (hr : (Lit.int .i64 m.rd).wf = true) (w : World) (h : VB w b bm sl N T L) :
  Calls Try.prog 41 #[.pointer (some ⟨b, 0, none⟩), wv m] w fun e w' => PutP N T L m b bm sl w e w' := by
 by_cases hm : mayV N m = true
 ·obtain ⟨kd, fr, rd, va, vl⟩ := m
  have h1 : 1 ≤ fr := (may_iffV.1 hm).2.1
  obtain ⟨F, rfl⟩ : ∃ F : Nat, fr = (F : Int) := ⟨fr.toNat, by omega⟩
  cases hh : hasV L kd rd (F : Int) with
  | true => exact vput_had F kd rd va vl hN hm hh hk hr w h
  | false => exact vput_ok F kd rd va vl hi hN hlen hm hh hk hr w h
 ·exact vput_bad m (by simpa using hm) w h
end Go.Proofs.Ytmanacbdldfmfaa
