/-
 Take, Start, called: THE FACE IS WHOLE.
-/
import Derived.Test.YtmanacbdldfmfaaAk
namespace Go.Proofs.Ytmanacbdldfmfaa
open Go.RowKit
set_option maxRecDepth 10000
theorem cnt_facts {p : Pm} {s : Ag} (hi : InvA p s) (h0 : 0 ≤ s.rd) (hd : s.dn = false) (m : Vt) : InvA p (cntA p s m).1 ∧ 0 ≤ (cntA p s m).1.rd ∧ (cntA p s m).1.dn = false ∧ (cntA p s m).2.length ≤ 1 := by
 unfold cntA
 cases e : countA p s m with
 | none => exact ⟨hi, h0, hd, by simp⟩
 | some x =>
  obtain ⟨q1, q2, _, q4⟩ := inv_count hi h0 e
  refine ⟨q1, q2, q4.trans hd, ?_⟩
  unfold countA at e
  split at e
  ·split at e
   ·injection e with e; subst e
    show (timeA p s m.va).2.length ≤ 1
    unfold timeA
    split
    ·exact Nat.le_refl _
    ·split
     ·exact Nat.le_refl _
     ·split
      ·unfold beginA
       split
       ·simp
       ·dsimp only; split <;> simp
      ·simp
   ·cases e
  ·split at e
   ·cases e
   ·split at e
    ·split at e
     ·injection e with e; subst e; simp
     ·cases e
    ·split at e
     ·injection e with e; subst e; simp
     ·cases e
theorem take_cnt {p : Pm} {s : Ag} (h0 : 0 ≤ s.rd) (hd : s.dn = false) (hq : Quiet p s) (m : Vt) : takeA p s m = ((stl p (cntA p s m).1).1, (cntA p s m).2 ++ (stl p (cntA p s m).1).2) := by
 rw [take_eq h0 hd]
 unfold cntA
 cases e : countA p s m with
 | none =>
  have : ruleA p s = none := by
   rcases hq with q | q
   ·rw [hd] at q; cases q
   ·exact q
  show (s, []) = ((stl p s).1, [] ++ (stl p s).2)
  rw [stl_none this]
  rfl
 | some x => rfl
set_option maxHeartbeats 2000000 in
theorem take1_any {w0 W : World} {F0 : Nat → Prop} {b c d : Nat} {p : Pm} {s : Ag} {out : List Vt} (m : Vt) (da dw : Nat) (hp : okP p) (hi : InvA p s) (h0 : 0 ≤ s.rd) (hd : s.dn = false) (hq : Quiet p s) (hl : out.length ≤ 7000) (hlen : s.vs.length ≤ 1000) (hrw : (Lit.int .i64 m.rd).wf = true)
  (ha : ∀ wx, Chg F0 w0 wx → wx.cell? ⟨da, 0, none⟩ = some (.pointer (some ⟨b, 0, none⟩)) ∧ da < wx.heap.size) (hw : ∀ wx, Chg F0 w0 wx → Wd dw m.kd m.fr m.rd m.va m.vl wx) (h : Run w0 F0 b c d p s out W) :
  Calls Try.prog 27 #[.pointer (some ⟨da, 0, none⟩), .pointer (some ⟨dw, 0, none⟩)] W fun e w' => e = .returned (.tuple #[]) ∧ Run w0 F0 b c d p (takeA p s m).1 (out ++ (takeA p s m).2) w' := by
 have HC : Hid (Calls Try.prog 28 #[.pointer (some ⟨b, 0, none⟩), .agg #[.int .i64 m.kd, .int .i64 m.fr, .int .i64 m.rd, .int .i64 m.va, .string m.vl]] W fun e w' => e = .returned (.tuple #[]) ∧ Run w0 F0 b c d p (cntA p s m).1 (out ++ (cntA p s m).2) w') := count_any m hp hi hd (by omega) hlen hrw h
 obtain ⟨i1, i2, i3, i4⟩ := cnt_facts hi h0 hd m
 have HS : Hid (∀ wx, Run w0 F0 b c d p (cntA p s m).1 (out ++ (cntA p s m).2) wx → Calls Try.prog 29 #[.pointer (some ⟨b, 0, none⟩)] wx fun e w' => e = .returned (.tuple #[]) ∧ Run w0 F0 b c d p (takeA p s m).1 (out ++ (takeA p s m).2) w') := fun wx hw => by
  rw [take_cnt h0 hd hq m, ← List.append_assoc]
  exact settle_any hp i1 i2 i3 (by rw [List.length_append]; omega) hw
 have Ha : Hid (∀ wx, Chg F0 w0 wx → wx.cell? ⟨da, 0, none⟩ = some (.pointer (some ⟨b, 0, none⟩)) ∧ da < wx.heap.size) := ha
 have hch : Chg F0 w0 W := by obtain ⟨_, _, _, q⟩ := h; exact q.chg
 obtain ⟨a0, al⟩ := ha W hch
 obtain ⟨w0c, w1c, w2c, w3c, w4c, wl⟩ := hw W hch
 clear h hp hi h0 hd hq hl hlen hrw ha hw hch i1 i2 i3 i4
 go_enter Try.func27, Try.ntmps27
 go_wp2_with fail
 refine HC.out.mono ?_
 rintro e w1 ⟨rfl, hR⟩
 have HR : Hid (Run w0 F0 b c d p (cntA p s m).1 (out ++ (cntA p s m).2) w1) := hR
 obtain ⟨a1, al1⟩ := Ha.out w1 (by obtain ⟨_, _, _, q⟩ := hR; exact q.chg)
 clear hR a0 al w0c w1c w2c w3c w4c wl
 go_wp2_with fail
 refine (HS.out _ HR.out).mono ?_
 rintro e w2 ⟨rfl, hR⟩
 have HR2 : Hid _ := hR
 clear hR
 go_wp2_with fail
 refine bodyPost_end (v := .tuple #[]) (by simp [results, Try.results27, go_sem]) rfl ⟨rfl, HR2.out⟩
set_option maxHeartbeats 2000000 in
theorem start1_any {w0 W : World} {F0 : Nat → Prop} {b c d : Nat} {p : Pm} {s : Ag} {out : List Vt} (da : Nat) (hp : okP p) (hi : InvA p s) (hd : s.dn = false) (hl : out.length ≤ 7000)
  (ha : ∀ wx, Chg F0 w0 wx → wx.cell? ⟨da, 0, none⟩ = some (.pointer (some ⟨b, 0, none⟩)) ∧ da < wx.heap.size) (h : Run w0 F0 b c d p s out W) :
  Calls Try.prog 31 #[.pointer (some ⟨da, 0, none⟩)] W fun e w' => e = .returned (.tuple #[]) ∧ Run w0 F0 b c d p (beginA p s 0).1 (out ++ (beginA p s 0).2) w' := by
 have HC : Hid (Calls Try.prog 32 #[.pointer (some ⟨b, 0, none⟩), .int .i64 0] W fun e w' => e = .returned (.tuple #[]) ∧ Run w0 F0 b c d p (beginA p s 0).1 (out ++ (beginA p s 0).2) w') := begin_any 0 hp hi hd (by omega) h
 have hch : Chg F0 w0 W := by obtain ⟨_, _, _, q⟩ := h; exact q.chg
 obtain ⟨a0, al⟩ := ha W hch
 clear h hp hi hd hl ha hch
 go_enter Try.func31, Try.ntmps31
 go_wp2_with fail
 refine HC.out.mono ?_
 rintro e w1 ⟨rfl, hR⟩
 have HR : Hid _ := hR
 clear hR
 go_wp2_with fail
 refine bodyPost_end (v := .tuple #[]) (by simp [results, Try.results31, go_sem]) rfl ⟨rfl, HR.out⟩
/-- What Take and Start leave: the part, and what is said, in a row of the caller's. -/
def TkP (b : Nat) (p : Pm) (s' : Ag) (out : List Vt) (G : Nat → Prop) (W : World) (e : Ending) (w' : World) : Prop :=
 ∃ u vp G', e = .returned u ∧ AB w' b p s' vp .nilFunc G' ∧ Sub G' G W ∧ Chg G W w' ∧ w'.ownsRow W.heap.size 39 5 u out.length (wcs out) ∧ ∀ k, u.ownBlock = some k → ¬ G' k
/-- The beginning. -/
theorem run_new {W : World} {b : Nat} {p : Pm} {s : Ag} {vp : Value} {G : Nat → Prop} (h : AB W b p s vp .nilFunc G) : Run W G b (W.heap.size + 1) W.heap.size p s [] (((W.setCell ⟨b, 140, none⟩ (sayF (W.heap.size + 1) W.heap.size)).alloc (.cells #[.pointer (some ⟨b, 0, none⟩)] 29)).alloc (.cells #[.slice none 0 0] 27)) := by
 have hb := h.lt b h.inG
 obtain ⟨W1, hW1⟩ : ∃ W1, W.setCell ⟨b, 140, none⟩ (sayF (W.heap.size + 1) W.heap.size) = W1 := ⟨_, rfl⟩
 have hs : W1.heap.size = W.heap.size := by rw [← hW1]; simp
 have h1 : AB W1 b p s vp (sayF (W.heap.size + 1) W.heap.size) G := by rw [← hW1]; exact h.put (by decide) _ (fun g q => q.setF _) rfl rfl
 have c1 : Chg G W W1 := by rw [← hW1]; exact (Chg.refl G W).st (.inl h.inG)
 rw [hW1]
 clear hW1
 have e1 : Ext W1 (W1.alloc (.cells #[.pointer (some ⟨b, 0, none⟩)] 29)) := (Ext.refl W1).alloc _
 have b1 : Blk (W1.alloc (.cells #[.pointer (some ⟨b, 0, none⟩)] 29)) W1.heap.size 1 (fun _ => .pointer (some ⟨b, 0, none⟩)) := Blk.new W1 _ 29 (fun j hj => by obtain rfl : j = 0 := (by omega); rfl)
 have b2 := Blk.new (W1.alloc (.cells #[.pointer (some ⟨b, 0, none⟩)] 29)) (n := 1) (g := fun _ => .slice none 0 0) #[.slice none 0 0] 27 (fun j hj => by obtain rfl : j = 0 := (by omega); rfl)
 rw [show (W1.alloc (.cells #[.pointer (some ⟨b, 0, none⟩)] 29)).heap.size = W.heap.size + 1 from by simp [hs]] at b2
 rw [hs] at b1
 have e2 := e1.alloc (.cells #[.slice none 0 0] 27)
 refine ⟨vp, G, .slice none 0 0, ⟨h1.ext e2, Sub.refl _ _, c1.thenExt e2, b2, b1.ext ((Ext.refl _).alloc _), by omega, Nat.le_refl _, by omega, fun q => by have := h.lt _ q; omega, fun q => by have := h.lt _ q; omega, World.ownsRow_nil _ _ _ _, fun k q => by cases q⟩⟩
/-- The end. -/
theorem run_end {w0 W : World} {F0 : Nat → Prop} {b c d : Nat} {p : Pm} {s : Ag} {out : List Vt} (h : Run w0 F0 b c d p s out W) : ∃ u, (∃ a n m, u = .slice a n m) ∧ W.cell? ⟨c, 0, none⟩ = some u ∧ c < W.heap.size ∧ W.cell? ⟨d, 0, none⟩ = some (.pointer (some ⟨b, 0, none⟩)) ∧ d < W.heap.size ∧ c ≠ b ∧ d ≠ b ∧ TkP b p s out F0 w0 (.returned u) (W.setCell ⟨b, 140, none⟩ .nilFunc) := by
 obtain ⟨vp, G, u, h⟩ := h
 obtain ⟨a, m, e⟩ := own_len h.own
 refine ⟨u, ⟨a, _, m, e⟩, (h.hc.2 0 (by decide)).1, h.hc.1, (h.hd.2 0 (by decide)).1, h.hd.1, fun z => h.gc (z ▸ h.ab.inG), fun z => h.gd (z ▸ h.ab.inG), u, vp, G, rfl, h.ab.put (by decide) _ (fun g q => q.setF _) rfl rfl, h.sub, h.chg.st (h.sub b h.ab.inG), own_setCell h.own (fun z => (h.ou b z).1 h.ab.inG), fun k q => (h.ou k q).1⟩
set_option maxHeartbeats 4000000 in
theorem listen_take {W : World} {b : Nat} {p : Pm} {s : Ag} {vp : Value} {G : Nat → Prop} (m : Vt) (da dw : Nat) (hp : okP p) (hi : InvA p s) (h0 : 0 ≤ s.rd) (hd : s.dn = false) (hq : Quiet p s) (hlen : s.vs.length ≤ 1000) (hrw : (Lit.int .i64 m.rd).wf = true) (ha : ∀ wx, Chg G W wx → wx.cell? ⟨da, 0, none⟩ = some (.pointer (some ⟨b, 0, none⟩)) ∧ da < wx.heap.size) (hw : ∀ wx, Chg G W wx → Wd dw m.kd m.fr m.rd m.va m.vl wx) (h : AB W b p s vp .nilFunc G) :
  Calls Try.prog 26 #[.pointer (some ⟨b, 0, none⟩), .func (.func 27) #[] #[.pointer (some ⟨da, 0, none⟩), .pointer (some ⟨dw, 0, none⟩)]] W fun e w' => TkP b p (takeA p s m).1 (takeA p s m).2 G W e w' := by
 have HC : Hid (Calls Try.prog 27 #[.pointer (some ⟨da, 0, none⟩), .pointer (some ⟨dw, 0, none⟩)] (((W.setCell ⟨b, 140, none⟩ (sayF (W.heap.size + 1) W.heap.size)).alloc (.cells #[.pointer (some ⟨b, 0, none⟩)] 29)).alloc (.cells #[.slice none 0 0] 27)) fun e w' => e = .returned (.tuple #[]) ∧ Run W G b (W.heap.size + 1) W.heap.size p (takeA p s m).1 (takeA p s m).2 w') := take1_any (out := []) m da dw hp hi h0 hd hq (by simp) hlen hrw ha hw (run_new h)
 have hbk := h.lt b h.inG
 obtain ⟨_, _, _, _, _, _, _, _, _, c140⟩ := h.at
 have z140 := h.fz (i := 140) (by decide)
 clear h hp hi h0 hd hq hlen hrw ha hw
 go_enter Try.func26, Try.ntmps26
 go_wp2_with fail
 refine HC.out.mono ?_
 rintro e w1 ⟨rfl, hR⟩
 obtain ⟨u, ⟨ua, un, um, rfl⟩, cc, lc, cd, ld, ncb, ndb, hT⟩ := run_end hR
 have HT : Hid _ := hT
 obtain ⟨hb1, _, _, _, _, _, _, _, _, c1⟩ := hR.at
 have z1 := hR.fz (i := 140) (by decide)
 have nbc : ¬ b = W.heap.size + 1 := fun q => ncb q.symm
 clear hR hT hbk c140 z140 HC
 go_wp2_with fail
 refine bodyPost_ret (v := .slice ua un um) (by simp [results, Try.results26, go_sem]) rfl ?_
 exact HT.out
set_option maxHeartbeats 4000000 in
theorem listen_start {W : World} {b : Nat} {p : Pm} {s : Ag} {vp : Value} {G : Nat → Prop} (da : Nat) (hp : okP p) (hi : InvA p s) (hd : s.dn = false) (ha : ∀ wx, Chg G W wx → wx.cell? ⟨da, 0, none⟩ = some (.pointer (some ⟨b, 0, none⟩)) ∧ da < wx.heap.size) (h : AB W b p s vp .nilFunc G) :
  Calls Try.prog 26 #[.pointer (some ⟨b, 0, none⟩), .func (.func 31) #[] #[.pointer (some ⟨da, 0, none⟩)]] W fun e w' => TkP b p (beginA p s 0).1 (beginA p s 0).2 G W e w' := by
 have HC : Hid (Calls Try.prog 31 #[.pointer (some ⟨da, 0, none⟩)] (((W.setCell ⟨b, 140, none⟩ (sayF (W.heap.size + 1) W.heap.size)).alloc (.cells #[.pointer (some ⟨b, 0, none⟩)] 29)).alloc (.cells #[.slice none 0 0] 27)) fun e w' => e = .returned (.tuple #[]) ∧ Run W G b (W.heap.size + 1) W.heap.size p (beginA p s 0).1 (beginA p s 0).2 w') := start1_any (out := []) da hp hi hd (by simp) ha (run_new h)
 have hbk := h.lt b h.inG
 obtain ⟨_, _, _, _, _, _, _, _, _, c140⟩ := h.at
 have z140 := h.fz (i := 140) (by decide)
 clear h hp hi hd ha
 go_enter Try.func26, Try.ntmps26
 go_wp2_with fail
 refine HC.out.mono ?_
 rintro e w1 ⟨rfl, hR⟩
 obtain ⟨u, ⟨ua, un, um, rfl⟩, cc, lc, cd, ld, ncb, ndb, hT⟩ := run_end hR
 have HT : Hid _ := hT
 obtain ⟨hb1, _, _, _, _, _, _, _, _, c1⟩ := hR.at
 have z1 := hR.fz (i := 140) (by decide)
 have nbc : ¬ b = W.heap.size + 1 := fun q => ncb q.symm
 clear hR hT hbk c140 z140 HC
 go_wp2_with fail
 refine bodyPost_ret (v := .slice ua un um) (by simp [results, Try.results26, go_sem]) rfl ?_
 exact HT.out
theorem take_nil (m : Vt) (w : World) : Calls Try.prog 14 #[.pointer none, wv m] w fun e w' => e = .returned (.slice none 0 0) ∧ Ext w w' := by
 have HE : Hid (Ext w w) := Ext.refl w
 go_enter Try.func14, Try.ntmps14
 go_wp2_with fail
 refine bodyPost_ret (by simp [results, Try.results14, go_sem]) rfl ⟨rfl, (HE.out.alloc _).alloc _⟩
theorem start_nil (w : World) : Calls Try.prog 17 #[.pointer none] w fun e w' => e = .returned (.slice none 0 0) ∧ Ext w w' := by
 have HE : Hid (Ext w w) := Ext.refl w
 go_enter Try.func17, Try.ntmps17
 go_wp2_with fail
 refine bodyPost_ret (by simp [results, Try.results17, go_sem]) rfl ⟨rfl, HE.out.alloc _⟩
theorem tk_none {W w' : World} {b : Nat} {p : Pm} {s : Ag} {vp : Value} {G : Nat → Prop} (h : AB W b p s vp .nilFunc G) (hx : Ext W w') : TkP b p s [] G W (.returned (.slice none 0 0)) w' :=
 ⟨_, vp, G, rfl, h.ext hx, Sub.refl _ _, Chg.of_ext _ hx, World.ownsRow_nil _ _ _ _, fun k q => by cases q⟩
/-- What is left behind a beginning that only made blocks. -/
theorem TkP.pre {W W1 w' : World} {b : Nat} {p : Pm} {s' : Ag} {out : List Vt} {G : Nat → Prop} {e : Ending} (hx : Ext W W1) (h : TkP b p s' out G W1 e w') : TkP b p s' out G W e w' := by
 obtain ⟨u, vp, G', e1, h1, h2, h3, h4, h5⟩ := h
 refine ⟨u, vp, G', e1, h1, fun k q => ?_, (Chg.of_ext G hx).trans h3 (fun k q => .inl q), own_base h4 hx.size, h5⟩
 rcases h2 k q with z | z
 ·exact .inl z
 ·exact .inr (Nat.le_trans hx.size z)
section
variable {W : World} {b : Nat} {p : Pm} {s : Ag} {vp : Value} {G : Nat → Prop}
set_option maxHeartbeats 2000000 in
theorem take_early (m : Vt) (hi : InvA p s) (hc : s.rd < 0 ∨ s.dn = true) (h : AB W b p s vp .nilFunc G) : Calls Try.prog 14 #[.pointer (some ⟨b, 0, none⟩), wv m] W fun e w' => TkP b p (takeA p s m).1 (takeA p s m).2 G W e w' := by
 have HT : Hid (∀ w', Ext W w' → TkP b p (takeA p s m).1 (takeA p s m).2 G W (.returned (.slice none 0 0)) w') := fun w' hx => by
  unfold takeA
  rw [if_pos hc]
  exact tk_none h hx
 have HE : Hid (Ext W W) := Ext.refl W
 obtain ⟨hb, _, _, _, c4, _, _, _, c139, _⟩ := h.at
 clear h
 by_cases hr : s.rd < 0
 ·have d1 : decide (s.rd < 0) = true := decide_eq_true hr
  clear hr hc hi
  go_enter Try.func14, Try.ntmps14
  go_wp2_with fail
  refine bodyPost_ret (by simp [results, Try.results14, go_sem]) rfl (HT.out _ ((HE.out.alloc _).alloc _))
 ·have d1 : decide (s.rd < 0) = false := decide_eq_false hr
  have hz : s.dc.size ≠ 0 := hi.dc.2.1 (by rcases hc with q | q; exact absurd q hr; exact q)
  have q4 := isEmpty_some hz
  have q5 := toList_some hz
  clear hr hc hi hz
  go_enter Try.func14, Try.ntmps14
  go_wp2_with fail
  refine bodyPost_ret (by simp [results, Try.results14, go_sem]) rfl (HT.out _ ((HE.out.alloc _).alloc _))
set_option maxHeartbeats 2000000 in
theorem take_live (m : Vt) (hp : okP p) (hi : InvA p s) (h0 : 0 ≤ s.rd) (hd : s.dn = false) (hq : Quiet p s) (hlen : s.vs.length ≤ 1000) (hrw : (Lit.int .i64 m.rd).wf = true) (h : AB W b p s vp .nilFunc G) : Calls Try.prog 14 #[.pointer (some ⟨b, 0, none⟩), wv m] W fun e w' => TkP b p (takeA p s m).1 (takeA p s m).2 G W e w' := by
 have hx : Ext W ((W.alloc (.cells #[.pointer (some ⟨b, 0, none⟩)] 29)).alloc (.cells #[.int .i64 m.kd, .int .i64 m.fr, .int .i64 m.rd, .int .i64 m.va, .string m.vl] 39)) := ((Ext.refl W).alloc _).alloc _
 have hsz : ((W.alloc (.cells #[.pointer (some ⟨b, 0, none⟩)] 29)).alloc (.cells #[.int .i64 m.kd, .int .i64 m.fr, .int .i64 m.rd, .int .i64 m.va, .string m.vl] 39)).heap.size = W.heap.size + 1 + 1 := by simp
 have hwd : Wd (W.heap.size + 1) m.kd m.fr m.rd m.va m.vl ((W.alloc (.cells #[.pointer (some ⟨b, 0, none⟩)] 29)).alloc (.cells #[.int .i64 m.kd, .int .i64 m.fr, .int .i64 m.rd, .int .i64 m.va, .string m.vl] 39)) := by
  have := Wd.new (W.alloc (.cells #[.pointer (some ⟨b, 0, none⟩)] 29)) m.kd m.fr m.rd m.va m.vl
  rw [show (W.alloc (.cells #[.pointer (some ⟨b, 0, none⟩)] 29)).heap.size = W.heap.size + 1 from by simp] at this
  exact this
 have hcl : ((W.alloc (.cells #[.pointer (some ⟨b, 0, none⟩)] 29)).alloc (.cells #[.int .i64 m.kd, .int .i64 m.fr, .int .i64 m.rd, .int .i64 m.va, .string m.vl] 39)).cell? ⟨W.heap.size, 0, none⟩ = some (.pointer (some ⟨b, 0, none⟩)) := later ((Ext.refl _).alloc _) (by rw [World.cell?_alloc_at _ _ _ _ rfl]; rfl)
 have HC : Hid (Calls Try.prog 26 #[.pointer (some ⟨b, 0, none⟩), .func (.func 27) #[] #[.pointer (some ⟨W.heap.size, 0, none⟩), .pointer (some ⟨W.heap.size + 1, 0, none⟩)]] ((W.alloc (.cells #[.pointer (some ⟨b, 0, none⟩)] 29)).alloc (.cells #[.int .i64 m.kd, .int .i64 m.fr, .int .i64 m.rd, .int .i64 m.va, .string m.vl] 39)) fun e w' => TkP b p (takeA p s m).1 (takeA p s m).2 G ((W.alloc (.cells #[.pointer (some ⟨b, 0, none⟩)] 29)).alloc (.cells #[.int .i64 m.kd, .int .i64 m.fr, .int .i64 m.rd, .int .i64 m.va, .string m.vl] 39)) e w') := listen_take m W.heap.size (W.heap.size + 1) hp hi h0 hd hq hlen hrw (fun wx hc => ⟨(hc.cell (by omega) (fun q => by have := h.lt _ q; omega)).trans hcl, Nat.lt_of_lt_of_le (by omega) hc.size⟩) (fun wx hc => hwd.keep hc.size (hc.block _ (by omega) (fun q => by have := h.lt _ q; omega))) (h.ext hx)
 have HX : Hid (Ext W ((W.alloc (.cells #[.pointer (some ⟨b, 0, none⟩)] 29)).alloc (.cells #[.int .i64 m.kd, .int .i64 m.fr, .int .i64 m.rd, .int .i64 m.va, .string m.vl] 39))) := hx
 obtain ⟨hb, _, _, _, c4, _, _, _, c139, _⟩ := h.at
 have d1 : decide (s.rd < 0) = false := decide_eq_false (by omega)
 have hz : s.dc.size = 0 := Classical.byContradiction fun z => by
  have := hi.dc.2.2 z
  rw [hd] at this
  cases this
 have q4 := isEmpty_nil hz
 have q5 := toList_nil hz
 clear h hp hi h0 hd hq hlen hrw hx hsz hwd hcl hz
 go_enter Try.func14, Try.ntmps14
 go_wp2_with fail
 refine HC.out.mono ?_
 rintro e w1 ⟨u, vp', G', rfl, hT⟩
 have HT : Hid (TkP b p (takeA p s m).1 (takeA p s m).2 G ((W.alloc (.cells #[.pointer (some ⟨b, 0, none⟩)] 29)).alloc (.cells #[.int .i64 m.kd, .int .i64 m.fr, .int .i64 m.rd, .int .i64 m.va, .string m.vl] 39)) (.returned u) w1) := ⟨u, vp', G', rfl, hT⟩
 clear hT
 go_wp2_with fail
 refine bodyPost_ret (by simp [results, Try.results14, go_sem]) rfl (TkP.pre HX.out HT.out)
theorem take_any (m : Vt) (hp : okP p) (hi : InvA p s) (hq : 0 ≤ s.rd → Quiet p s) (hlen : s.vs.length ≤ 1000) (hrw : (Lit.int .i64 m.rd).wf = true) (h : AB W b p s vp .nilFunc G) : Calls Try.prog 14 #[.pointer (some ⟨b, 0, none⟩), wv m] W fun e w' => TkP b p (takeA p s m).1 (takeA p s m).2 G W e w' := by
 by_cases hc : s.rd < 0 ∨ s.dn = true
 ·exact take_early m hi hc h
 ·exact take_live m hp hi (by omega) (by simpa using fun q => hc (.inr q)) (hq (by omega)) hlen hrw h
set_option maxHeartbeats 2000000 in
theorem start_late (h0 : 0 ≤ s.rd) (h : AB W b p s vp .nilFunc G) : Calls Try.prog 17 #[.pointer (some ⟨b, 0, none⟩)] W fun e w' => TkP b p (startA p s).1 (startA p s).2 G W e w' := by
 have HT : Hid (∀ w', Ext W w' → TkP b p (startA p s).1 (startA p s).2 G W (.returned (.slice none 0 0)) w') := fun w' hx => by
  unfold startA
  rw [if_pos h0]
  exact tk_none h hx
 have HE : Hid (Ext W W) := Ext.refl W
 obtain ⟨hb, _, _, _, c4, _⟩ := h.at
 have d1 : decide ((0 : Int) ≤ s.rd) = true := decide_eq_true h0
 clear h h0
 go_enter Try.func17, Try.ntmps17
 go_wp2_with fail
 refine bodyPost_ret (by simp [results, Try.results17, go_sem]) rfl (HT.out _ (HE.out.alloc _))
set_option maxHeartbeats 2000000 in
theorem start_first (hp : okP p) (hi : InvA p s) (h0 : ¬ 0 ≤ s.rd) (h : AB W b p s vp .nilFunc G) : Calls Try.prog 17 #[.pointer (some ⟨b, 0, none⟩)] W fun e w' => TkP b p (startA p s).1 (startA p s).2 G W e w' := by
 have hd : s.dn = false := (hi.nw (by have := hi.rd; omega)).2.2
 have hx : Ext W (W.alloc (.cells #[.pointer (some ⟨b, 0, none⟩)] 29)) := (Ext.refl W).alloc _
 have hsz : (W.alloc (.cells #[.pointer (some ⟨b, 0, none⟩)] 29)).heap.size = W.heap.size + 1 := by simp
 have hcl : (W.alloc (.cells #[.pointer (some ⟨b, 0, none⟩)] 29)).cell? ⟨W.heap.size, 0, none⟩ = some (.pointer (some ⟨b, 0, none⟩)) := by rw [World.cell?_alloc_at _ _ _ _ rfl]; rfl
 have HC : Hid (Calls Try.prog 26 #[.pointer (some ⟨b, 0, none⟩), .func (.func 31) #[] #[.pointer (some ⟨W.heap.size, 0, none⟩)]] (W.alloc (.cells #[.pointer (some ⟨b, 0, none⟩)] 29)) fun e w' => TkP b p (startA p s).1 (startA p s).2 G (W.alloc (.cells #[.pointer (some ⟨b, 0, none⟩)] 29)) e w') := by
  show Calls _ _ _ _ _
  unfold startA
  rw [if_neg h0]
  exact listen_start W.heap.size hp hi hd (fun wx hc => ⟨(hc.cell (by omega) (fun q => by have := h.lt _ q; omega)).trans hcl, Nat.lt_of_lt_of_le (by omega) hc.size⟩) (h.ext hx)
 have HX : Hid (Ext W (W.alloc (.cells #[.pointer (some ⟨b, 0, none⟩)] 29))) := hx
 obtain ⟨hb, _, _, _, c4, _⟩ := h.at
 have d1 : decide ((0 : Int) ≤ s.rd) = false := decide_eq_false h0
 clear h hp hi h0 hd hx hsz hcl
 go_enter Try.func17, Try.ntmps17
 go_wp2_with fail
 refine HC.out.mono ?_
 rintro e w1 ⟨u, vp', G', rfl, hT⟩
 have HT : Hid (TkP b p (startA p s).1 (startA p s).2 G (W.alloc (.cells #[.pointer (some ⟨b, 0, none⟩)] 29)) (.returned u) w1) := ⟨u, vp', G', rfl, hT⟩
 clear hT
 go_wp2_with fail
 refine bodyPost_ret (by simp [results, Try.results17, go_sem]) rfl (TkP.pre HX.out HT.out)
theorem start_any (hp : okP p) (hi : InvA p s) (h : AB W b p s vp .nilFunc G) : Calls Try.prog 17 #[.pointer (some ⟨b, 0, none⟩)] W fun e w' => TkP b p (startA p s).1 (startA p s).2 G W e w' := by
 by_cases h0 : 0 ≤ s.rd
 ·exact start_late h0 h
 ·exact start_first hp hi h0 h
end
end Go.Proofs.Ytmanacbdldfmfaa
