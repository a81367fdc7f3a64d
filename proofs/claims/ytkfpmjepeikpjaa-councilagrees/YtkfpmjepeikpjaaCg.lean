/-
 Deliver, Lose, Decided, called.
-/
import Derived.Test.YtkfpmjepeikpjaaCf
namespace Go.Proofs.Ytkfpmjepeikpjaa
open Go.RowKit Go.Maps
set_option maxRecDepth 10000
theorem okC7 {q : Cp} (h : okC q) : q.vals.length ≤ 7 := by
 by_cases h0 : q.vals.length = 0
 · omega
 · have h1 := (h.2 0 (by omega)).1
   have h2 : (q.n : Int) ≤ 7 := h1.2.2.2
   have h3 := h.1
   omega
theorem wok_wf {m : Vt} (h : wOk m = true) : (Lit.int .i64 m.rd).wf = true := by
 have := wOk_iff.1 h
 exact WalkArith.wf_i64 (by omega)
/-- What holds of a council behind at most n deeds. -/
structure CI (q : Cp) (c : Cn) (n : Nat) : Prop where
 inv : ∃ L, CnI q c L n
 wf : ∀ x ∈ c.wy, (Lit.int .i64 x.2.rd).wf = true
section
variable {w W : World} {cb : Nat} {q : Cp} {c : Cn} {i n : Nat}
theorem CI.h7 (h : CI q c n) : q.vals.length ≤ 7 := by
 obtain ⟨L, h⟩ := h.inv
 exact okC7 h.ok
theorem CI.len (h : CI q c n) : c.nd.length = q.vals.length := by
 obtain ⟨L, h⟩ := h.inv
 exact h.len
theorem CI.nod (h : CI q c n) {s : Ag} (hs : c.nd[i]? = some s) : (∃ L, NdC (pmC q i) s L n) ∧ i < 7 := by
 have h7 := h.h7
 obtain ⟨L, h⟩ := h.inv
 have := (List.getElem?_eq_some_iff.1 hs).1
 exact ⟨⟨_, h.nod i s hs⟩, by rw [h.len] at this; omega⟩
theorem CI.way (h : CI q c n) {x : Nat × Vt} (hx : x ∈ c.wy) : 1 ≤ x.1 ∧ ∃ s, c.nd[x.1 - 1]? = some s := by
 obtain ⟨L, h⟩ := h.inv
 obtain ⟨⟨w1, w2⟩, _⟩ := h.way x hx
 exact ⟨w1, h.at (by omega)⟩
theorem CI.more (h : CI q c n) {k : Nat} (hk : n ≤ k) : CI q c k := by
 obtain ⟨L, h1⟩ := h.inv
 exact ⟨⟨L, h1.more hk⟩, h.wf⟩
theorem CI.gone (h : CI q c n) (k : Nat) : CI q ⟨c.nd, c.wy.eraseIdx k⟩ n := by
 obtain ⟨L, h1⟩ := h.inv
 exact ⟨⟨L, h1.gone k⟩, fun x hx => h.wf x (List.mem_of_mem_eraseIdx hx)⟩
theorem take_wf {L : Nat → List Vt} (h : CnI q c L n) (hw : ∀ x ∈ c.wy, (Lit.int .i64 x.2.rd).wf = true) (i : Nat) (m : Vt) : ∀ x ∈ (takeC q c i m).wy, (Lit.int .i64 x.2.rd).wf = true := by
 unfold takeC
 cases hs : c.nd[i]? with
 | none => exact hw
 | some s =>
  intro x hx
  rcases say_mem hx with u | ⟨_, v⟩
  · exact hw x u
  · exact wok_wf (((h.nod i s hs).take m).his.said.wf x.2 (List.mem_append_right _ v)).2
theorem CI.del (h : CI q c n) (i : Int) : CI q (delC q c i).1 (n + 1) := by
 obtain ⟨L, h1⟩ := h.inv
 refine ⟨h1.del i, ?_⟩
 unfold delC
 cases e : c.wy[atC c i]? with
 | none => exact h.wf
 | some x => exact take_wf (h1.gone (atC c i)) (fun x hx => h.wf x (List.mem_of_mem_eraseIdx hx)) _ _
theorem CI.los (h : CI q c n) (i : Int) : CI q (losC c i).1 n := by
 obtain ⟨L, h1⟩ := h.inv
 refine ⟨⟨L, h1.los i⟩, ?_⟩
 unfold losC
 cases e : c.wy[atC c i]? with
 | none => exact h.wf
 | some x => exact fun x hx => h.wf x (List.mem_of_mem_eraseIdx hx)
theorem CI.forg (h : CI q c n) (tn : Int) {m : Vt} (hm : (Lit.int .i64 m.rd).wf = true) : CI q (forC c tn m).1 n := by
 obtain ⟨L, h1⟩ := h.inv
 refine ⟨⟨L, h1.forg tn m⟩, ?_⟩
 unfold forC
 split
 · intro x hx
   rcases List.mem_append.1 hx with u | u
   · exact h.wf x u
   · obtain rfl := List.mem_singleton.1 u; exact hm
 · exact h.wf
theorem CI.tim (h : CI q c n) (node step : Int) : CI q (timC q c node step).1 (n + 1) := by
 obtain ⟨L, h1⟩ := h.inv
 refine ⟨h1.tim node step, ?_⟩
 unfold timC
 split
 · exact take_wf h1 h.wf _ _
 · exact h.wf
theorem CI.start (hq : okC q) : CI q (startC q q.vals.length) 0 := by
 refine ⟨⟨_, CnI.start hq⟩, fun x hx => ?_⟩
 obtain ⟨_, k, hk, _, hm⟩ := (start_wy q hq _ (Nat.le_refl _)).2 x hx
 exact wok_wf ((said_start (hq.2 k hk)).wf x.2 hm).2
theorem at_lt {c : Cn} {i : Int} (h : c.wy ≠ []) : ∃ x, c.wy[atC c i]? = some x := by
 have h0 : 0 < c.wy.length := List.length_pos_iff.2 h
 have h1 := Int.emod_lt_of_pos i (show (0 : Int) < (c.wy.length : Int) by omega)
 have h2 := Int.emod_nonneg i (show (c.wy.length : Int) ≠ 0 by omega)
 exact ⟨c.wy[atC c i]'(by unfold atC; omega), List.getElem?_eq_getElem _⟩
theorem wy_nil {c : Cn} {i : Int} (h : c.wy[atC c i]? = none) : c.wy = [] := Classical.byContradiction fun z => by
 obtain ⟨x, e⟩ := at_lt (i := i) z
 rw [h] at e
 cases e
/-- Where nothing is under way, or there is no council. -/
theorem deliver_none (p : Value) (i : Int) (hw : ∀ wx, Ext W wx → Calls Try.prog 14 #[p] wx fun e w' => e = .returned (.int .i64 0) ∧ w' = wx) : Calls Try.prog 13 #[p, .int .i64 i] W fun e w' => e = .returned (.bool false) ∧ Ext W w' := by
 have HO : Hid (Calls Try.prog 23 #[p, .int .i64 i] W fun e w' => e = .returned (.tuple #[zlv, .bool false]) ∧ Ext W w') := out_zero p i hw
 clear hw
 go_enter Try.func13, Try.ntmps13
 go_wp2_with fail
 refine HO.out.mono ?_
 rintro e w1 ⟨rfl, hx⟩
 have HX : Hid (Ext W (w1.alloc (.cells #[.int .i64 0, .int .i64 0, .int .i64 0, .int .i64 0, .int .i64 0, .string ⟨#[]⟩] 57))) := hx.alloc _
 clear hx HO
 go_wp2
 go_ret
 exact ⟨rfl, HX.out⟩
theorem lose_none (p : Value) (i : Int) (hw : ∀ wx, Ext W wx → Calls Try.prog 14 #[p] wx fun e w' => e = .returned (.int .i64 0) ∧ w' = wx) : Calls Try.prog 15 #[p, .int .i64 i] W fun e w' => e = .returned (.bool false) ∧ Ext W w' := by
 have HO : Hid (Calls Try.prog 23 #[p, .int .i64 i] W fun e w' => e = .returned (.tuple #[zlv, .bool false]) ∧ Ext W w') := out_zero p i hw
 clear hw
 go_enter Try.func15, Try.ntmps15
 go_wp2_with fail
 refine HO.out.mono ?_
 rintro e w1 ⟨rfl, hx⟩
 have HX : Hid (Ext W (w1.alloc (.cells #[.int .i64 0, .int .i64 0, .int .i64 0, .int .i64 0, .int .i64 0, .string ⟨#[]⟩] 57))) := hx.alloc _
 clear hx HO
 go_wp2
 go_ret
 exact ⟨rfl, HX.out⟩
theorem deliver_nil (i : Int) (W : World) : Calls Try.prog 13 #[.pointer none, .int .i64 i] W fun e w' => e = .returned (.bool false) ∧ Ext W w' := deliver_none _ i fun wx _ => waiting_nil wx
theorem lose_nil (i : Int) (W : World) : Calls Try.prog 15 #[.pointer none, .int .i64 i] W fun e w' => e = .returned (.bool false) ∧ Ext W w' := lose_none _ i fun wx _ => waiting_nil wx
theorem CY.wait (h : CY w cb q c W) (e : c.wy = []) : ∀ wx, Ext W wx → Calls Try.prog 14 #[.pointer (some ⟨cb, 0, none⟩)] wx fun e w' => e = .returned (.int .i64 0) ∧ w' = wx := fun wx hx => by
 have := waiting_any (h.ext hx)
 rw [e] at this
 exact this
set_option maxHeartbeats 2000000 in
theorem deliver_any (h : CY w cb q c W) (hI : CI q c n) (hn : n ≤ 900) (i : Int) : Calls Try.prog 13 #[.pointer (some ⟨cb, 0, none⟩), .int .i64 i] W fun e w' => e = .returned (.bool (delC q c i).2) ∧ CY w cb q (delC q c i).1 w' := by
 cases e : c.wy[atC c i]? with
 | none =>
  have ed : delC q c i = (c, false) := by unfold delC; rw [e]
  rw [ed]
  refine (deliver_none (W := W) _ i (h.wait (wy_nil e))).mono ?_
  rintro e w' ⟨rfl, hx⟩
  exact ⟨rfl, h.ext hx⟩
 | some x =>
  have ed : delC q c i = (takeC q ⟨c.nd, c.wy.eraseIdx (atC c i)⟩ (x.1 - 1) x.2, true) := by unfold delC; rw [e]
  rw [ed]
  have hxm := List.mem_of_getElem? e
  obtain ⟨w1, s, hs⟩ := hI.way hxm
  obtain ⟨⟨L, hN⟩, hi7⟩ := hI.nod hs
  have ex : ((x.1 - 1 : Nat) : Int) + 1 = (x.1 : Int) := by omega
  have HT : Hid (∀ wx, CY w cb q ⟨c.nd, c.wy.eraseIdx (atC c i)⟩ wx → Calls Try.prog 24 #[.pointer (some ⟨cb, 0, none⟩), .int .i64 (x.1 : Int), wv x.2] wx fun e w' => e = .returned (.tuple #[]) ∧ CY w cb q (takeC q ⟨c.nd, c.wy.eraseIdx (atC c i)⟩ (x.1 - 1) x.2) w') := fun wx hy => by
   have := ctake_any hy (c := ⟨c.nd, c.wy.eraseIdx (atC c i)⟩) hs hi7 hI.h7 hN hn x.2 (hI.wf x hxm)
   rw [ex] at this
   exact this
  have HO : Hid (Calls Try.prog 23 #[.pointer (some ⟨cb, 0, none⟩), .int .i64 i] W fun e w' => e = .returned (.tuple #[lvv x, .bool true]) ∧ CY w cb q ⟨c.nd, c.wy.eraseIdx (atC c i)⟩ w') := by
   obtain ⟨mn, P, h⟩ := h
   refine (out_some h i e).mono ?_
   rintro e w' ⟨rfl, hx⟩
   exact ⟨rfl, mn, P, hx⟩
  clear h hI hn ed hxm w1 hs hN hi7 ex e
  generalize takeC q ⟨c.nd, c.wy.eraseIdx (atC c i)⟩ (x.1 - 1) x.2 = c2 at *
  generalize (⟨c.nd, c.wy.eraseIdx (atC c i)⟩ : Cn) = c1 at *
  go_enter Try.func13, Try.ntmps13
  go_wp2_with fail
  refine HO.out.mono ?_
  rintro e w1 ⟨rfl, hx⟩
  have HY : Hid (CY w cb q c1 (w1.alloc (.cells #[.int .i64 (x.1 : Int), .int .i64 x.2.kd, .int .i64 x.2.fr, .int .i64 x.2.rd, .int .i64 x.2.va, .string x.2.vl] 57))) := hx.ext ((Ext.refl w1).alloc _)
  clear hx HO
  go_wp2_with fail
  refine (HT.out _ HY.out).mono ?_
  rintro e w2 ⟨rfl, hx⟩
  have HY2 : Hid (CY w cb q c2 w2) := hx
  clear hx HY HT
  go_wp2
  go_ret
  exact ⟨rfl, HY2.out⟩
theorem lose_any (h : CY w cb q c W) (i : Int) : Calls Try.prog 15 #[.pointer (some ⟨cb, 0, none⟩), .int .i64 i] W fun e w' => e = .returned (.bool (losC c i).2) ∧ CY w cb q (losC c i).1 w' := by
 cases e : c.wy[atC c i]? with
 | none =>
  have ed : losC c i = (c, false) := by unfold losC; rw [e]
  rw [ed]
  refine (lose_none (W := W) _ i (h.wait (wy_nil e))).mono ?_
  rintro e w' ⟨rfl, hx⟩
  exact ⟨rfl, h.ext hx⟩
 | some x =>
  have ed : losC c i = (⟨c.nd, c.wy.eraseIdx (atC c i)⟩, true) := by unfold losC; rw [e]
  rw [ed]
  have HO : Hid (Calls Try.prog 23 #[.pointer (some ⟨cb, 0, none⟩), .int .i64 i] W fun e w' => e = .returned (.tuple #[lvv x, .bool true]) ∧ CY w cb q ⟨c.nd, c.wy.eraseIdx (atC c i)⟩ w') := by
   obtain ⟨mn, P, h⟩ := h
   refine (out_some h i e).mono ?_
   rintro e w' ⟨rfl, hx⟩
   exact ⟨rfl, mn, P, hx⟩
  clear h ed e
  generalize (⟨c.nd, c.wy.eraseIdx (atC c i)⟩ : Cn) = c1 at *
  go_enter Try.func15, Try.ntmps15
  go_wp2_with fail
  refine HO.out.mono ?_
  rintro e w1 ⟨rfl, hx⟩
  have HY : Hid (CY w cb q c1 (w1.alloc (.cells #[.int .i64 (x.1 : Int), .int .i64 x.2.kd, .int .i64 x.2.fr, .int .i64 x.2.rd, .int .i64 x.2.va, .string x.2.vl] 57))) := hx.ext ((Ext.refl w1).alloc _)
  clear hx HO
  go_wp2
  go_ret
  exact ⟨rfl, HY.out⟩
/-- What a node decided. -/
def dcdC (c : Cn) (k : Int) : ByteArray × Bool := match (if honC c k then c.nd[(k - 1).toNat]? else none) with
 | some s => (s.dc, s.dn)
 | none => (emp, false)
theorem decided_nil (k : Int) (W : World) : Calls Try.prog 11 #[.pointer none, .int .i64 k] W fun e w' => e = .returned (.tuple #[.string emp, .bool false]) ∧ Ext W w' := by
 have HH : Hid (Calls Try.prog 21 #[.pointer none, .int .i64 k] W fun e w' => e = .returned (.bool false) ∧ w' = W) := hon_nil k W
 go_enter Try.func11, Try.ntmps11
 go_wp2_with fail
 refine HH.out.mono ?_
 rintro e w1 ⟨rfl, rfl⟩
 go_wp2
 refine bodyPost_ret (v := .tuple #[.string emp, .bool false]) (by simp [results, Try.results11, go_sem]) rfl ⟨rfl, Ext.refl _⟩
theorem decided_any (h : CY w cb q c W) (hI : CI q c n) (k : Int) : Calls Try.prog 11 #[.pointer (some ⟨cb, 0, none⟩), .int .i64 k] W fun e w' => e = .returned (.tuple #[.string (dcdC c k).1, .bool (dcdC c k).2]) ∧ Ext W w' := by
 have hl := hI.len
 have h7 := hI.h7
 obtain ⟨mn, P, h⟩ := h
 obtain ⟨hb, h0⟩ := h.honest
 have HH : Hid (Calls Try.prog 21 #[.pointer (some ⟨cb, 0, none⟩), .int .i64 k] W fun e w' => e = .returned (.bool (decide (1 ≤ k ∧ k ≤ (q.vals.length : Int)))) ∧ w' = W) := hon_any hb h0 k
 by_cases hk : 1 ≤ k ∧ k ≤ (q.vals.length : Int)
 · have hh : honC c k := ⟨hk.1, by rw [hl]; exact hk.2⟩
   obtain ⟨i, hi⟩ : ∃ i : Nat, k = (i : Int) + 1 := ⟨(k - 1).toNat, by omega⟩
   subst hi
   have hil : i < c.nd.length := by rw [hl]; omega
   obtain ⟨s, hs⟩ : ∃ s, c.nd[i]? = some s := ⟨c.nd[i], List.getElem?_eq_getElem hil⟩
   obtain ⟨⟨L, hN⟩, hi7⟩ := hI.nod hs
   have ed : dcdC c ((i : Int) + 1) = (s.dc, s.dn) := by
    unfold dcdC
    rw [if_pos hh, show (((i : Int) + 1) - 1).toNat = i from by omega, hs]
   rw [ed]
   rw [decide_eq_true hk] at HH
   obtain ⟨mb, M, lab, hc, hz1, hz2⟩ := h
   have c1 : W.cell? ⟨cb, 2 + (i + 1), none⟩ = some (.string s.dc) := by
    have := (hc.blk.2 (2 + (i + 1)) (by omega)).1
    rw [this]
    unfold cgC
    rw [if_neg (by omega), if_neg (by omega), if_neg (by omega), show 2 + (i + 1) - 2 = i + 1 from by omega, dc_at hs]
   have HC : Hid (Calls Try.prog 22 #[.string s.dc] W fun e w' => e = .returned (.string s.dc) ∧ Ext W w') := clone_any s.dc (by have := hN.inv.dc.1; omega) W
   have hdn := hN.inv.dc.2
   have HE : Hid ((!s.dc.toList.isEmpty) = s.dn) := by
    cases hd : s.dn with
    | true => rw [isEmpty_some (hdn.1 hd)]; rfl
    | false => rw [isEmpty_nil (Classical.byContradiction fun z => by rw [hdn.2 z] at hd; cases hd)]; rfl
   have r0 : (0 : Int) ≤ (i : Int) + 1 := by omega
   have r1 : (i : Int) + 1 < 8 := by omega
   clear hc hz1 hz2 hs hN hdn hil hh hk hl h7 h0 ed hI
   generalize s.dc = B at *
   generalize s.dn = d at *
   go_enter Try.func11, Try.ntmps11
   go_wp2_with fail
   refine HH.out.mono ?_
   rintro e w1 ⟨rfl, rfl⟩
   go_wp2_with fail
   refine HC.out.mono ?_
   rintro e w2 ⟨rfl, hx⟩
   have HX : Hid (Ext w1 w2) := hx
   clear hx HC HH c1
   go_wp2
   rw [HE.out]
   refine bodyPost_ret (v := .tuple #[.string B, .bool d]) (by simp [results, Try.results11, go_sem]) rfl ⟨rfl, HX.out⟩
 · have ed : dcdC c k = (emp, false) := by
    unfold dcdC
    rw [if_neg (fun z => hk ⟨z.1, by have := z.2; rw [hl] at this; exact this⟩)]
   rw [ed]
   rw [decide_eq_false hk] at HH
   clear h hI hl h7 h0 hb hk ed
   go_enter Try.func11, Try.ntmps11
   go_wp2_with fail
   refine HH.out.mono ?_
   rintro e w1 ⟨rfl, rfl⟩
   go_wp2
   refine bodyPost_ret (v := .tuple #[.string emp, .bool false]) (by simp [results, Try.results11, go_sem]) rfl ⟨rfl, Ext.refl _⟩
end
end Go.Proofs.Ytkfpmjepeikpjaa
