/-
 A node takes a word: take, called.
-/
import Derived.Test.YtkfpmjepeikpjaaCoC
namespace Go.Proofs.Ytkfpmjepeikpjaa
open Go.RowKit Go.Maps
set_option maxRecDepth 10000
theorem begin_out (p : Pm) (s : Ag) (r : Int) : (beginA p s r).2.length ≤ 1 := by
 unfold beginA
 split
 · simp
 · dsimp only; split <;> simp
theorem rule_out {p : Pm} {s : Ag} {x : Ag × List Vt} (e : ruleA p s = some x) : x.2.length ≤ 1 := by
 rcases rule_case e with q | ⟨_, q⟩ | ⟨_, q⟩ | ⟨_, q⟩ | ⟨_, q⟩
 · unfold r1 at q
   cases h : seekA (hitA p s) 0 64 with
   | none => rw [h] at q; cases q
   | some B => rw [h] at q; injection q with q; subst q; simp
 · unfold r2 at q
   split at q
   · injection q with q; subst q; exact begin_out _ _ _
   · cases q
 · unfold r3 at q
   split at q
   · split at q
     · injection q with q; subst q; exact Nat.le_refl _
     · cases q
   · cases q
 · unfold r5 at q
   split at q
   · split at q
     · injection q with q
       subst q
       split
       · exact Nat.le_refl _
       · simp
     · cases q
   · cases q
 · unfold r6 at q
   split at q
   · injection q with q; subst q; exact Nat.le_refl _
   · cases q
theorem stl_out (p : Pm) : ∀ (n : Nat) (s : Ag), (stlA p n s).2.length ≤ n
 | 0, s => Nat.le_refl _
 | n + 1, s => by
  unfold stlA
  split
  · simp
  · split
    · simp
    · rename_i s' o e
      have h1 := rule_out e
      have h2 := stl_out p n s'
      show (o ++ (stlA p n s').2).length ≤ n + 1
      rw [List.length_append]
      have h1 : o.length ≤ 1 := h1
      omega
theorem take_out {p : Pm} {s : Ag} (hi : InvA p s) (h0 : 0 ≤ s.rd) (hq : Quiet p s) (m : Vt) : (takeA p s m).2.length ≤ 2000 := by
 cases hd : s.dn with
 | true => rw [take_done hd]; simp
 | false =>
  rw [take_cnt h0 hd hq m, List.length_append]
  have h1 := (cnt_facts hi h0 hd m).2.2.2
  have h2 := stl_out p 1000 (cntA p s m).1
  show _ + (stlA p 1000 (cntA p s m).1).2.length ≤ _
  omega
theorem lv_set (nd : List Ag) {i : Nat} (hi : i < nd.length) (s : Ag) (j : Nat) : lvC (nd.set i s) j = if j = i then !s.dn else lvC nd j := by
 unfold lvC
 rw [List.getElem?_set]
 by_cases e : j = i
 · subst e; rw [if_pos rfl, if_pos rfl, if_pos hi]; rfl
 · rw [if_neg (fun z => e z.symm), if_neg e]
theorem dc_set (nd : List Ag) {i : Nat} (hi : i < nd.length) (s : Ag) (k : Nat) : dcC (nd.set i s) k = if k = i + 1 then s.dc else dcC nd k := by
 unfold dcC
 by_cases e0 : k = 0
 · rw [if_pos e0, if_neg (by omega), if_pos e0]
 · rw [if_neg e0, if_neg e0, List.getElem?_set]
   by_cases e : k = i + 1
   · subst e; rw [if_pos (by omega), if_pos rfl, if_pos (by omega)]; rfl
   · rw [if_neg (by omega), if_neg e]
theorem lv_at {nd : List Ag} {i : Nat} {s : Ag} (h : nd[i]? = some s) : lvC nd i = !s.dn := by unfold lvC; rw [h]; rfl
theorem dc_at {nd : List Ag} {i : Nat} {s : Ag} (h : nd[i]? = some s) : dcC nd (i + 1) = s.dc := by unfold dcC; rw [if_neg (by omega), Nat.add_sub_cancel, h]; rfl
section
variable {w W : World} {cb : Nat} {q : Cp} {c : Cn} {i n : Nat} {s : Ag} {L : List Vt}
/-- One that has decided takes nothing. -/
theorem ctake_done (h : CY w cb q c W) (hs : c.nd[i]? = some s) (hd : s.dn = true) (hi7 : i < 7) (hH : q.vals.length ≤ 7) (m : Vt) : Calls Try.prog 24 #[.pointer (some ⟨cb, 0, none⟩), .int .i64 ((i : Int) + 1), wv m] W fun e w' => e = .returned (.tuple #[]) ∧ CY w cb q (takeC q c i m) w' := by
 have hil : i < c.nd.length := (List.getElem?_eq_some_iff.1 hs).1
 have ht : takeC q c i m = ⟨c.nd, sayC q.vals.length c.wy []⟩ := by
  unfold takeC
  rw [hs]
  dsimp only
  rw [take_done hd]
  obtain ⟨_, _, h⟩ := h
  rw [h.len]
  congr 1
  exact List.ext_getElem? fun k => by
   rw [List.getElem?_set]
   split
   · rename_i e; subst e; exact hs.symm
   · rfl
 rw [ht]
 obtain ⟨mn, P, h⟩ := h
 obtain ⟨X, hX⟩ : ∃ X, W.alloc (.cells #[.int .i64 m.kd, .int .i64 m.fr, .int .i64 m.rd, .int .i64 m.va, .string m.vl] 32) = X := ⟨_, rfl⟩
 have hx : Ext W X := by rw [← hX]; exact (Ext.refl W).alloc _
 have hX1 := h.ext hx
 have hX2 := hX1.watch (Ext.refl X) (fun _ => False) (fun k hk => .inl hk)
 obtain ⟨mb, M, lab, hc, hz1, hz2⟩ := hX1
 clear hz1 hz2
 have hb := hc.blk.1
 have c1 : X.cell? ⟨cb, 1, none⟩ = some (.map (some mb)) := (hc.blk.2 1 (by decide)).1
 have hk : (Lit.int .i64 ((i : Int) + 1)).wf = true := WalkArith.wf_i64 (by omega)
 have hlook := hc.map.look hk
 have e : mpC (lvC c.nd) P ((i : Int) + 1) = .pointer none := by
  unfold mpC
  rw [if_neg (fun z => by rw [show ((i : Int) + 1).toNat - 1 = i from by omega, lv_at hs, hd] at z; exact absurd z.2 (by decide))]
 rw [e] at hlook
 obtain ⟨bx, hbx⟩ : ∃ bx, W.heap.size = bx := ⟨_, rfl⟩
 have hB : Blk X bx 5 (fun j => (#[.int .i64 m.kd, .int .i64 m.fr, .int .i64 m.rd, .int .i64 m.va, .string m.vl] : Array Value).getD j undef) := by
  rw [← hX, ← hbx]
  refine Blk.new W _ 32 fun j hj => ?_
  match j, hj with
  | 0, _ => rfl
  | 1, _ => rfl
  | 2, _ => rfl
  | 3, _ => rfl
  | 4, _ => rfl
 have b0 := (hB.2 0 (by decide)).1
 have b1 := (hB.2 1 (by decide)).1
 have b2 := (hB.2 2 (by decide)).1
 have b3 := (hB.2 3 (by decide)).1
 have b4 := (hB.2 4 (by decide)).1
 have bl := hB.1
 have HT : Hid (Calls Try.prog 33 #[.pointer none, wv m] X fun e w' => e = .returned (.slice none 0 0) ∧ Ext X w') := take_nil m X
 have HX : Hid (CX w cb q c.nd c.wy mn (lvC c.nd) (dcC c.nd) P (fun _ => False) X X) := hX2
 have HS : Hid (∀ wx, Ext X wx → Calls Try.prog 18 #[.pointer (some ⟨cb, 0, none⟩), .slice none 0 0] wx fun e w' => e = .returned (.tuple #[]) ∧ CX w cb q c.nd (sayC q.vals.length c.wy []) mn (lvC c.nd) (dcC c.nd) P (fun _ => False) X w') := fun wx hx => by
  have h1 := HX.out.ext hx
  exact spread_any (L := []) (a := none) (c := 0) h1 ⟨none, 0, rfl, fun z => absurd z (by decide)⟩ (fun b o e => by cases e) (by decide) hH
 have HD : Hid (∀ wx : World, Calls Try.prog 34 #[.pointer none] wx fun e w' => e = .returned (.tuple #[.string emp, .bool false]) ∧ Ext wx w') := fun wx => adecided_nil wx
 have HOld : Hid (Ext w X) := hc.old
 clear h hc hx hX2 e ht hB hk hil hs
 go_enter Try.func24, Try.ntmps24
 go_wp2_with fail
 refine HT.out.mono ?_
 rintro e w1 ⟨rfl, hx1⟩
 have HX1 : Hid (Ext X w1) := hx1
 clear hx1 hX hbx c1 hlook b0 b1 b2 b3 b4 bl HT hb
 go_wp2_with fail
 refine (HS.out _ HX1.out).mono ?_
 rintro e w2 ⟨rfl, hx2⟩
 have HX2 : Hid (CX w cb q c.nd (sayC q.vals.length c.wy []) mn (lvC c.nd) (dcC c.nd) P (fun _ => False) X w2) := hx2
 clear hx2 HX1 HS
 go_wp2_with fail
 refine (HD.out _).mono ?_
 rintro e w3 ⟨rfl, hx3⟩
 have HY : Hid (CY w cb q ⟨c.nd, sayC q.vals.length c.wy []⟩ w3) := ⟨mn, P, (HX2.out.ext hx3).back HOld.out.size (fun k hk => hk.elim)⟩
 clear hx3 HX2
 go_wp2
 refine bodyPost_end (v := .tuple #[]) (by simp [results, Try.results24, go_sem]) rfl ⟨rfl, HY.out⟩
set_option maxHeartbeats 2000000 in
/-- One that has not. -/
theorem ctake_live (h : CY w cb q c W) (hs : c.nd[i]? = some s) (hd : s.dn = false) (hi7 : i < 7) (hH : q.vals.length ≤ 7) (hN : NdC (pmC q i) s L n) (hn : n ≤ 900) (m : Vt) (hrw : (Lit.int .i64 m.rd).wf = true) :
  Calls Try.prog 24 #[.pointer (some ⟨cb, 0, none⟩), .int .i64 ((i : Int) + 1), wv m] W fun e w' => e = .returned (.tuple #[]) ∧ CY w cb q (takeC q c i m) w' := by
 have hil : i < c.nd.length := (List.getElem?_eq_some_iff.1 hs).1
 obtain ⟨s', hs'⟩ : ∃ s', (takeA (pmC q i) s m).1 = s' := ⟨_, rfl⟩
 obtain ⟨out, hout⟩ : ∃ out, (takeA (pmC q i) s m).2 = out := ⟨_, rfl⟩
 have hol : out.length ≤ 2000 := by rw [← hout]; exact take_out hN.inv hN.rd hN.qt m
 have hi' : InvA (pmC q i) s' := by rw [← hs']; exact (inv_take hN.inv m).1
 obtain ⟨mn, P, h⟩ := h
 have ht : takeC q c i m = ⟨c.nd.set i s', sayC q.vals.length c.wy out⟩ := by
  unfold takeC
  rw [hs]
  dsimp only
  rw [hs', hout, h.len]
 rw [ht]
 have hdc0 : dcC c.nd (i + 1) = emp := by
  rw [dc_at hs]
  refine emp_of ?_
  have := hN.inv.dc.2
  rw [hd] at this
  exact Classical.byContradiction fun z => absurd (this.2 z) (by decide)
 obtain ⟨X, hX⟩ : ∃ X, W.alloc (.cells #[.int .i64 m.kd, .int .i64 m.fr, .int .i64 m.rd, .int .i64 m.va, .string m.vl] 32) = X := ⟨_, rfl⟩
 have hx : Ext W X := by rw [← hX]; exact (Ext.refl W).alloc _
 have hX1 := h.ext hx
 obtain ⟨mb, M, lab, hc, hz1, hz2⟩ := hX1
 clear hz1 hz2
 have hb := hc.blk.1
 have c1 : X.cell? ⟨cb, 1, none⟩ = some (.map (some mb)) := (hc.blk.2 1 (by decide)).1
 have hk : (Lit.int .i64 ((i : Int) + 1)).wf = true := WalkArith.wf_i64 (by omega)
 have hlook := hc.map.look hk
 have hlv : lvC c.nd i = true := by rw [lv_at hs, hd]; rfl
 have e : mpC (lvC c.nd) P ((i : Int) + 1) = .pointer (some ⟨P i, 0, none⟩) := by
  unfold mpC
  rw [show ((i : Int) + 1).toNat - 1 = i from by omega, if_pos ⟨by omega, hlv⟩]
 rw [e] at hlook
 obtain ⟨vp, hA⟩ := hc.prt i s hlv hs
 obtain ⟨bx, hbx⟩ : ∃ bx, W.heap.size = bx := ⟨_, rfl⟩
 have hB : Blk X bx 5 (fun j => (#[.int .i64 m.kd, .int .i64 m.fr, .int .i64 m.rd, .int .i64 m.va, .string m.vl] : Array Value).getD j undef) := by
  rw [← hX, ← hbx]
  refine Blk.new W _ 32 fun j hj => ?_
  match j, hj with
  | 0, _ => rfl
  | 1, _ => rfl
  | 2, _ => rfl
  | 3, _ => rfl
  | 4, _ => rfl
 have b0 := (hB.2 0 (by decide)).1
 have b1 := (hB.2 1 (by decide)).1
 have b2 := (hB.2 2 (by decide)).1
 have b3 := (hB.2 3 (by decide)).1
 have b4 := (hB.2 4 (by decide)).1
 have bl := hB.1
 have HT : Hid (Calls Try.prog 33 #[.pointer (some ⟨P i, 0, none⟩), wv m] X fun e w' => TkP (P i) (pmC q i) s' out (fun k => lab k = 4 + i) X e w') := by
  have := take_any (p := pmC q i) m hN.ok hN.inv (fun _ => hN.qt) (by have := hN.len; omega) hrw hA
  rw [hs', hout] at this
  exact this
 have HC : Hid (CO w X cb mb q c.nd c.wy mn (lvC c.nd) (dcC c.nd) M P lab) := hc
 have HI : Hid (InvA (pmC q i) s' ∧ out.length ≤ 2000 ∧ i < c.nd.length ∧ lvC c.nd i = true ∧ q.vals.length ≤ 7 ∧ dcC c.nd (i + 1) = emp ∧ i < 7) := ⟨hi', hol, hil, hlv, hH, hdc0, hi7⟩
 have Hk : Hid ((Lit.int .i64 ((i : Int) + 1)).wf = true) := hk
 have ni0 : (0 : Int) ≤ (i : Int) + 1 := by omega
 have ni8 : (i : Int) + 1 < 8 := by omega
 clear h hc hx e ht hB hk hil hs hA hN hrw hs' hout hol hi' hlv hd hH hdc0 hi7
 go_enter Try.func24, Try.ntmps24
 go_wp2_with fail
 refine HT.out.mono ?_
 rintro e w1 ⟨u, vp', G', rfl, hA1, hS1, hC1, hO1, hu1⟩
 obtain ⟨ua, uc, eu⟩ := own_len hO1
 subst eu
 have lm := HC.out.lm
 have hold : Ext w w1 := hC1.ext HC.out.old (fun k z => HC.out.prn i k HI.out.2.2.2.1 z)
 obtain ⟨f1, hf1⟩ := rl_ex lab G' i _
 have hco := HC.out.part (i := i) HI.out.2.2.1 (s' := s') (lv' := lvC c.nd) (P' := P) hold hC1.size (fun k hk z _ => hC1.block k hk (fun y => z ⟨y, HI.out.2.2.2.1⟩)) (HC.out.map.keep (hC1.block mb HC.out.map.lt (fun y => by have y : lab mb = 4 + i := y; omega))) (fun _ _ => rfl) HI.out.2.2.2.1 (fun _ _ => rfl) hA1 (fun k g => by
  rcases hS1 k g with z | z
  · exact .inl ⟨z, HI.out.2.2.2.1⟩
  · exact .inr z) hf1
 have HX1 : Hid (CX w cb q (c.nd.set i s') c.wy mn (lvC c.nd) (dcC c.nd) P (fun k => (Value.slice ua out.length uc).ownBlock = some k) w1 w1) := ⟨mb, M, _, hco, Nat.le_refl _, fun k hk => ⟨(hO1.lt k hk).2, hf1.new k (hu1 k hk) (hO1.lt k hk).1, rfl⟩⟩
 have HOw : Hid (w.heap.size ≤ w1.heap.size) := hold.size
 have HS : Hid (Calls Try.prog 18 #[.pointer (some ⟨cb, 0, none⟩), .slice ua out.length uc] w1 fun e w' => e = .returned (.tuple #[]) ∧ CX w cb q (c.nd.set i s') (sayC q.vals.length c.wy out) mn (lvC c.nd) (dcC c.nd) P (fun k => (Value.slice ua out.length uc).ownBlock = some k) w1 w') :=
  spread_any HX1.out (own_ws hO1) (fun b o e => by rw [e]; rfl) (by have := HI.out.2.1; omega) HI.out.2.2.2.2.1
 clear hA1 hS1 hC1 hO1 hu1 lm hold hco hf1 HC HT c1 hlook b0 b1 b2 b3 b4 bl hX hbx hb HX1
 go_wp2_with fail
 refine HS.out.mono ?_
 rintro e w2 ⟨rfl, hx2⟩
 have HX2 : Hid (CX w cb q (c.nd.set i s') (sayC q.vals.length c.wy out) mn (lvC c.nd) (dcC c.nd) P (fun k => (Value.slice ua out.length uc).ownBlock = some k) w1 w2) := hx2
 have HD : Hid (Calls Try.prog 34 #[.pointer (some ⟨P i, 0, none⟩)] w2 fun e w' => e = .returned (.tuple #[.string s'.dc, .bool s'.dn]) ∧ Ext w2 w') := by
  obtain ⟨mb2, M2, lab2, hc2, _, _⟩ := hx2
  obtain ⟨vp2, hA2⟩ := hc2.prt i s' HI.out.2.2.2.1 (by rw [List.getElem?_set, if_pos rfl, if_pos HI.out.2.2.1])
  exact adecided_any hA2 HI.out.1
 clear hx2 HS
 go_wp2_with fail
 refine HD.out.mono ?_
 rintro e w3 ⟨rfl, hx3⟩
 have HX3 : Hid (CX w cb q (c.nd.set i s') (sayC q.vals.length c.wy out) mn (lvC c.nd) (dcC c.nd) P (fun _ => False) w w3) := (HX2.out.ext hx3).back HOw.out (fun k hk => hk.elim)
 clear hx3 HX2 HD
 cases hdn : s'.dn with
 | false =>
  have HY : Hid (CY w cb q ⟨c.nd.set i s', sayC q.vals.length c.wy out⟩ w3) := by
   refine ⟨mn, P, ?_⟩
   have e1 : lvC (c.nd.set i s') = lvC c.nd := funext fun j => by
    rw [lv_set _ HI.out.2.2.1]
    split
    · rename_i e; subst e; rw [hdn, HI.out.2.2.2.1]; rfl
    · rfl
   have e2 : dcC (c.nd.set i s') = dcC c.nd := funext fun k => by
    rw [dc_set _ HI.out.2.2.1]
    split
    · rename_i e
      subst e
      rw [HI.out.2.2.2.2.2.1]
      refine emp_of ?_
      have := HI.out.1.dc.2
      rw [hdn] at this
      exact Classical.byContradiction fun z => absurd (this.2 z) (by decide)
    · rfl
   show CX w cb q (c.nd.set i s') (sayC q.vals.length c.wy out) mn (lvC (c.nd.set i s')) (dcC (c.nd.set i s')) P (fun _ => False) w w3
   rw [e1, e2]
   exact HX3.out
  clear HX3
  go_wp2
  refine bodyPost_end (v := .tuple #[]) (by simp [results, Try.results24, go_sem]) rfl ⟨rfl, HY.out⟩
 | true =>
  obtain ⟨mb3, M3, lab3, hc3, hz1, hz2⟩ := HX3.out
  have hb3 := hc3.blk.1
  obtain ⟨k2, z2⟩ := hc3.blk.2 (2 + (i + 1)) (by have := HI.out.2.2.2.2.2.2; omega)
  have hc4 := hc3.note (j := i + 1) (by have := HI.out.2.2.2.2.2.2; omega) s'.dc
  have c1 : (w3.setCell ⟨cb, 2 + (i + 1), none⟩ (.string s'.dc)).cell? ⟨cb, 1, none⟩ = some (.map (some mb3)) := (hc4.blk.2 1 (by decide)).1
  have hb4 := hc4.blk.1
  obtain ⟨w5, hrun, hIm, hgr⟩ := hc4.map.del Hk.out 0
  have hc5 := hc4.drop i hgr hIm
  have HY : Hid (CY w cb q ⟨c.nd.set i s', sayC q.vals.length c.wy out⟩ w5) := by
   refine ⟨mn, P, ?_⟩
   have e1 : lvC (c.nd.set i s') = fun j => if j = i then false else lvC c.nd j := funext fun j => by
    rw [lv_set _ HI.out.2.2.1, hdn]; rfl
   have e2 : dcC (c.nd.set i s') = fun k => if k = i + 1 then s'.dc else dcC c.nd k := funext fun k => dc_set _ HI.out.2.2.1 _ k
   show CX w cb q (c.nd.set i s') (sayC q.vals.length c.wy out) mn (lvC (c.nd.set i s')) (dcC (c.nd.set i s')) P (fun _ => False) w w5
   rw [e1, e2]
   exact ⟨mb3, M3, lab3, hc5, hc5.old.size, fun k hk => hk.elim⟩
  have r0 : 0 ≤ (i : Int) + 1 := by omega
  have r1 : (i : Int) + 1 < 8 := by have := HI.out.2.2.2.2.2.2; omega
  generalize dcC c.nd (i + 1) = oldv at *
  clear HX3 hc3 hc4 hc5 hIm hgr hz1 hz2
  go_wp2_with fail
  refine bodyPost_end (v := .tuple #[]) (by simp [results, Try.results24, go_sem]) rfl ⟨rfl, HY.out⟩
theorem ctake_any (h : CY w cb q c W) (hs : c.nd[i]? = some s) (hi7 : i < 7) (hH : q.vals.length ≤ 7) (hN : NdC (pmC q i) s L n) (hn : n ≤ 900) (m : Vt) (hrw : (Lit.int .i64 m.rd).wf = true) :
  Calls Try.prog 24 #[.pointer (some ⟨cb, 0, none⟩), .int .i64 ((i : Int) + 1), wv m] W fun e w' => e = .returned (.tuple #[]) ∧ CY w cb q (takeC q c i m) w' := by
 cases hd : s.dn with
 | true => exact ctake_done h hs hd hi7 hH m
 | false => exact ctake_live h hs hd hi7 hH hN hn m hrw
end
end Go.Proofs.Ytkfpmjepeikpjaa
