/-
 Forge, Timeout, called.
-/
import Derived.Test.YtkfpmjepeikpjaaCg
namespace Go.Proofs.Ytkfpmjepeikpjaa
open Go.RowKit Go.Maps
set_option maxRecDepth 10000
theorem forge_nil (tn : Int) (m : Vt) (W : World) : Calls Try.prog 16 #[.pointer none, .int .i64 tn, wv m] W fun e w' => e = .returned (.bool false) ∧ Ext W w' := by
 have HE : Hid (Ext W (W.alloc (.cells #[.int .i64 m.kd, .int .i64 m.fr, .int .i64 m.rd, .int .i64 m.va, .string m.vl] 32))) := (Ext.refl W).alloc _
 have HH : Hid (∀ wx, Calls Try.prog 21 #[.pointer none, .int .i64 tn] wx fun e w' => e = .returned (.bool false) ∧ w' = wx) := fun wx => hon_nil tn wx
 go_enter Try.func16, Try.ntmps16
 go_wp2_with fail
 refine (HH.out _).mono ?_
 rintro e w1 ⟨rfl, rfl⟩
 go_wp2
 go_ret
 exact ⟨rfl, HE.out⟩
theorem blk_wv (W : World) (m : Vt) : Blk (W.alloc (.cells #[.int .i64 m.kd, .int .i64 m.fr, .int .i64 m.rd, .int .i64 m.va, .string m.vl] 32)) W.heap.size 5 (fun j => (#[.int .i64 m.kd, .int .i64 m.fr, .int .i64 m.rd, .int .i64 m.va, .string m.vl] : Array Value).getD j undef) := Blk.new W _ 32 fun j hj => by
 match j, hj with
 | 0, _ => rfl
 | 1, _ => rfl
 | 2, _ => rfl
 | 3, _ => rfl
 | 4, _ => rfl
section
variable {w W : World} {cb : Nat} {q : Cp} {c : Cn} {n : Nat}
set_option maxHeartbeats 2000000 in
theorem forge_any (h : CY w cb q c W) (hl : c.nd.length = q.vals.length) (tn : Int) (m : Vt) (hv : m.vl.size ≤ 100000) : Calls Try.prog 16 #[.pointer (some ⟨cb, 0, none⟩), .int .i64 tn, wv m] W fun e w' => e = .returned (.bool (forC c tn m).2) ∧ CY w cb q (forC c tn m).1 w' := by
 obtain ⟨X, hX⟩ : ∃ X, W.alloc (.cells #[.int .i64 m.kd, .int .i64 m.fr, .int .i64 m.rd, .int .i64 m.va, .string m.vl] 32) = X := ⟨_, rfl⟩
 have hx : Ext W X := by rw [← hX]; exact (Ext.refl W).alloc _
 have HY : Hid (CY w cb q c X) := h.ext hx
 obtain ⟨bx, hbx⟩ : ∃ bx, W.heap.size = bx := ⟨_, rfl⟩
 have hB := blk_wv W m
 rw [hX, hbx] at hB
 have b0 := (hB.2 0 (by decide)).1
 have b1 := (hB.2 1 (by decide)).1
 have b2 := (hB.2 2 (by decide)).1
 have b3 := (hB.2 3 (by decide)).1
 have b4 := (hB.2 4 (by decide)).1
 have z4 := (hB.2 4 (by decide)).2
 have bl := hB.1
 have HBW : Hid (w.heap.size ≤ bx ∧ Blk X bx 5 (fun j => (#[.int .i64 m.kd, .int .i64 m.fr, .int .i64 m.rd, .int .i64 m.va, .string m.vl] : Array Value).getD j undef)) := ⟨by rw [← hbx]; exact h.old.size, hB⟩
 have HH : Hid (∀ k, Calls Try.prog 21 #[.pointer (some ⟨cb, 0, none⟩), .int .i64 k] X fun e w' => e = .returned (.bool (decide (honC c k))) ∧ w' = X) := fun k => by
  obtain ⟨mn, P, h⟩ := HY.out
  obtain ⟨hb, h0⟩ := h.honest
  have := hon_any hb h0 k
  rw [← hl] at this
  exact this
 obtain ⟨a, d, hb, c10⟩ : ∃ a d, cb < X.heap.size ∧ X.cell? ⟨cb, 10, none⟩ = some (.slice a c.wy.length d) := by
  obtain ⟨mn, P, mb, M, lab, hc, _, _⟩ := HY.out
  obtain ⟨a, d, _, e⟩ := hc.mcell
  exact ⟨a, d, hc.blk.1, e⟩
 have ncb : bx ≠ cb := by
  obtain ⟨mn, P, mb, M, lab, hc, _, _⟩ := h
  have := hc.blk.1
  omega
 have hbX : bx < X.heap.size := hB.1
 have HYW : Hid (CY w cb q c W ∧ Ext W X ∧ W.heap.size ≤ bx) := ⟨h, hx, by omega⟩
 clear hx h hB hl
 by_cases h1 : honC c tn
 · by_cases h2 : honC c m.fr
   · have e : forC c tn m = (c, false) := by unfold forC; rw [if_neg (fun z => z.2.1 h2)]
     rw [e]
     have H1 : Hid (Calls Try.prog 21 #[.pointer (some ⟨cb, 0, none⟩), .int .i64 tn] X fun e w' => e = .returned (.bool true) ∧ w' = X) := by
      have := HH.out tn
      rw [decide_eq_true h1] at this
      exact this
     have H2 : Hid (Calls Try.prog 21 #[.pointer (some ⟨cb, 0, none⟩), .int .i64 m.fr] X fun e w' => e = .returned (.bool true) ∧ w' = X) := by
      have := HH.out m.fr
      rw [decide_eq_true h2] at this
      exact this
     clear HH e h1 h2 HBW
     go_enter Try.func16, Try.ntmps16
     go_wp2_with fail
     refine H1.out.mono ?_
     rintro e w1 ⟨rfl, rfl⟩
     go_wp2_with fail
     refine H2.out.mono ?_
     rintro e w1 ⟨rfl, rfl⟩
     go_wp2
     go_ret
     exact ⟨rfl, HY.out⟩
   · by_cases h3 : m.kd = 4
     · have e : forC c tn m = (c, false) := by unfold forC; rw [if_neg (fun z => z.2.2.1 h3)]
       rw [e]
       have H1 : Hid (Calls Try.prog 21 #[.pointer (some ⟨cb, 0, none⟩), .int .i64 tn] X fun e w' => e = .returned (.bool true) ∧ w' = X) := by
        have := HH.out tn
        rw [decide_eq_true h1] at this
        exact this
       have H2 : Hid (Calls Try.prog 21 #[.pointer (some ⟨cb, 0, none⟩), .int .i64 m.fr] X fun e w' => e = .returned (.bool false) ∧ w' = X) := by
        have := HH.out m.fr
        rw [decide_eq_false h2] at this
        exact this
       rw [h3] at b0
       clear HH e h1 h2 h3 HBW
       go_enter Try.func16, Try.ntmps16
       go_wp2_with fail
       refine H1.out.mono ?_
       rintro e w1 ⟨rfl, rfl⟩
       go_wp2_with fail
       refine H2.out.mono ?_
       rintro e w1 ⟨rfl, rfl⟩
       go_wp2
       go_ret
       exact ⟨rfl, HY.out⟩
     · have k4 : (m.kd == 4) = false := by simpa using h3
       by_cases h4 : c.wy.length < 4096
       · have e : forC c tn m = (⟨c.nd, c.wy ++ [(tn.toNat, m)]⟩, true) := by unfold forC; rw [if_pos ⟨h1, h2, h3, h4⟩]
         rw [e]
         obtain ⟨k, hk⟩ : ∃ k : Nat, tn = (k : Int) := ⟨tn.toNat, by have := h1.1; omega⟩
         subst hk
         rw [Int.toNat_natCast]
         have H1 : Hid (Calls Try.prog 21 #[.pointer (some ⟨cb, 0, none⟩), .int .i64 (k : Int)] X fun e w' => e = .returned (.bool true) ∧ w' = X) := by
          have := HH.out (k : Int)
          rw [decide_eq_true h1] at this
          exact this
         have H2 : Hid (Calls Try.prog 21 #[.pointer (some ⟨cb, 0, none⟩), .int .i64 m.fr] X fun e w' => e = .returned (.bool false) ∧ w' = X) := by
          have := HH.out m.fr
          rw [decide_eq_false h2] at this
          exact this
         have HC : Hid (Calls Try.prog 22 #[.string m.vl] X fun e w' => e = .returned (.string m.vl) ∧ Ext X w') := clone_any m.vl hv X
         have HS : Hid (∀ wx, CY w cb q c wx → Calls Try.prog 25 #[.pointer (some ⟨cb, 0, none⟩), .int .i64 (k : Int), wv m] wx fun e w' => e = .returned (.tuple #[]) ∧ CY w cb q ⟨c.nd, c.wy ++ [(k, m)]⟩ w') := fun wx hy => by
          obtain ⟨mn, P, hy⟩ := hy
          refine (send_any hy k m).mono ?_
          rintro e w' ⟨rfl, hz⟩
          rw [List.take_of_length_le (by rw [List.length_append]; exact h4)] at hz
          exact ⟨rfl, mn, P, hz⟩
         have hge : decide ((4096 : Int) ≤ (c.wy.length : Int)) = false := decide_eq_false (by omega)
         clear HH e h1 h2 h3 hv h4
         generalize c.wy.length = wn at *
         go_enter Try.func16, Try.ntmps16
         go_wp2_with fail
         refine H1.out.mono ?_
         rintro e w1 ⟨rfl, rfl⟩
         go_wp2_with fail
         refine H2.out.mono ?_
         rintro e w1 ⟨rfl, rfl⟩
         go_wp2_with fail
         refine HC.out.mono ?_
         rintro e w2 ⟨rfl, hx2⟩
         have hB2 := HBW.out.2.ext hx2
         have rl := hB2.1
         have r0 : w2.cell? ⟨bx, 0, none⟩ = some (.int .i64 m.kd) := (hB2.2 0 (by decide)).1
         have r1 : w2.cell? ⟨bx, 1, none⟩ = some (.int .i64 m.fr) := (hB2.2 1 (by decide)).1
         have r2 : w2.cell? ⟨bx, 2, none⟩ = some (.int .i64 m.rd) := (hB2.2 2 (by decide)).1
         have r3 : w2.cell? ⟨bx, 3, none⟩ = some (.int .i64 m.va) := (hB2.2 3 (by decide)).1
         have r4 : w2.cell? ⟨bx, 4, none⟩ = some (.string m.vl) := (hB2.2 4 (by decide)).1
         have q4 := (hB2.2 4 (by decide)).2
         have HY2 : Hid (CY w cb q c (w2.setCell ⟨bx, 4, none⟩ (.string m.vl))) := HYW.out.1.ext ((HYW.out.2.1.trans hx2).st HYW.out.2.2)
         clear hB2 hx2 b0 b1 b2 b3 b4 z4 bl hb c10 hbX HBW HY HC H1 H2 hX hbx HYW
         go_wp2_with fail
         refine (HS.out _ HY2.out).mono ?_
         rintro e w3 ⟨rfl, hx3⟩
         have HY3 : Hid (CY w cb q ⟨c.nd, c.wy ++ [(k, m)]⟩ w3) := hx3
         clear hx3 HS HY2 r0 r1 r2 r3 r4 q4 rl
         go_wp2
         go_ret
         exact ⟨rfl, HY3.out⟩
       · have e : forC c tn m = (c, false) := by unfold forC; rw [if_neg (fun z => h4 z.2.2.2)]
         rw [e]
         have H1 : Hid (Calls Try.prog 21 #[.pointer (some ⟨cb, 0, none⟩), .int .i64 tn] X fun e w' => e = .returned (.bool true) ∧ w' = X) := by
          have := HH.out tn
          rw [decide_eq_true h1] at this
          exact this
         have H2 : Hid (Calls Try.prog 21 #[.pointer (some ⟨cb, 0, none⟩), .int .i64 m.fr] X fun e w' => e = .returned (.bool false) ∧ w' = X) := by
          have := HH.out m.fr
          rw [decide_eq_false h2] at this
          exact this
         have hge : (4096 : Int) ≤ (c.wy.length : Int) := by omega
         clear HH e h1 h2 h3 h4 HBW
         generalize c.wy.length = wn at *
         go_enter Try.func16, Try.ntmps16
         go_wp2_with fail
         refine H1.out.mono ?_
         rintro e w1 ⟨rfl, rfl⟩
         go_wp2_with fail
         refine H2.out.mono ?_
         rintro e w1 ⟨rfl, rfl⟩
         go_wp2
         go_ret
         exact ⟨rfl, HY.out⟩
 · have e : forC c tn m = (c, false) := by unfold forC; rw [if_neg (fun z => h1 z.1)]
   rw [e]
   have H1 : Hid (Calls Try.prog 21 #[.pointer (some ⟨cb, 0, none⟩), .int .i64 tn] X fun e w' => e = .returned (.bool false) ∧ w' = X) := by
    have := HH.out tn
    rw [decide_eq_false h1] at this
    exact this
   clear HH e h1 HBW
   go_enter Try.func16, Try.ntmps16
   go_wp2_with fail
   refine H1.out.mono ?_
   rintro e w1 ⟨rfl, rfl⟩
   go_wp2
   go_ret
   exact ⟨rfl, HY.out⟩
theorem takeC_done {i : Nat} {s : Ag} (hs : c.nd[i]? = some s) (hd : s.dn = true) (m m' : Vt) : takeC q c i m = takeC q c i m' := by
 unfold takeC
 rw [hs]
 dsimp only
 rw [take_done hd, take_done hd]
theorem timeout_nil (node step : Int) (W : World) : Calls Try.prog 20 #[.pointer none, .int .i64 node, .int .i64 step] W fun e w' => e = .returned (.bool false) ∧ Ext W w' := by
 have HH : Hid (Calls Try.prog 21 #[.pointer none, .int .i64 node] W fun e w' => e = .returned (.bool false) ∧ w' = W) := hon_nil node W
 go_enter Try.func20, Try.ntmps20
 go_wp2_with fail
 refine HH.out.mono ?_
 rintro e w1 ⟨rfl, rfl⟩
 go_wp2
 go_ret
 exact ⟨rfl, Ext.refl _⟩
set_option maxHeartbeats 2000000 in
theorem timeout_any (h : CY w cb q c W) (hI : CI q c n) (hn : n ≤ 900) (node step : Int) : Calls Try.prog 20 #[.pointer (some ⟨cb, 0, none⟩), .int .i64 node, .int .i64 step] W fun e w' => e = .returned (.bool (timC q c node step).2) ∧ CY w cb q (timC q c node step).1 w' := by
 have hl := hI.len
 have h7 := hI.h7
 have HYW : Hid (CY w cb q c W) := h
 obtain ⟨mn, P, h⟩ := h
 obtain ⟨hb, h0⟩ := h.honest
 by_cases hk : 1 ≤ node ∧ node ≤ (q.vals.length : Int)
 · have hh : honC c node := ⟨hk.1, by rw [hl]; exact hk.2⟩
   obtain ⟨i, hi⟩ : ∃ i : Nat, node = (i : Int) + 1 := ⟨(node - 1).toNat, by omega⟩
   subst hi
   have HH : Hid (Calls Try.prog 21 #[.pointer (some ⟨cb, 0, none⟩), .int .i64 ((i : Int) + 1)] W fun e w' => e = .returned (.bool true) ∧ w' = W) := by
    have := hon_any hb h0 ((i : Int) + 1)
    rw [decide_eq_true hk] at this
    exact this
   have hil : i < c.nd.length := by rw [hl]; omega
   obtain ⟨s, hs⟩ : ∃ s, c.nd[i]? = some s := ⟨c.nd[i], List.getElem?_eq_getElem hil⟩
   obtain ⟨⟨L, hN⟩, hi7⟩ := hI.nod hs
   have ed : timC q c ((i : Int) + 1) step = (takeC q c i ⟨4, 0, s.rd, step, emp⟩, true) := by
    unfold timC
    rw [if_pos hh, show (((i : Int) + 1) - 1).toNat = i from by omega, hs]
   rw [ed]
   obtain ⟨mb, M, lab, hc, hz1, hz2⟩ := h
   have c1 : W.cell? ⟨cb, 1, none⟩ = some (.map (some mb)) := (hc.blk.2 1 (by decide)).1
   have hkw : (Lit.int .i64 ((i : Int) + 1)).wf = true := WalkArith.wf_i64 (by omega)
   have hlook := hc.map.look hkw
   have HA : ∃ v r st, mpC (lvC c.nd) P ((i : Int) + 1) = v ∧ (Calls Try.prog 30 #[v] W fun e w' => e = .returned (.tuple #[.int .i64 r, .int .i64 st]) ∧ Ext W w') ∧ (Lit.int .i64 r).wf = true ∧ takeC q c i ⟨4, 0, s.rd, step, emp⟩ = takeC q c i ⟨4, 0, r, step, emp⟩ := by
    cases hd : s.dn with
    | true =>
     refine ⟨.pointer none, 0, 0, ?_, aat_nil W, by decide, takeC_done hs hd _ _⟩
     unfold mpC
     rw [if_neg (fun z => by rw [show ((i : Int) + 1).toNat - 1 = i from by omega, lv_at hs, hd] at z; exact absurd z.2 (by decide))]
    | false =>
     have hlv : lvC c.nd i = true := by rw [lv_at hs, hd]; rfl
     obtain ⟨vp, hA⟩ := hc.prt i s hlv hs
     refine ⟨.pointer (some ⟨P i, 0, none⟩), s.rd, s.st, ?_, aat_any hA, WalkArith.wf_i64 (by have := hN.inv.rd; omega), rfl⟩
     unfold mpC
     rw [show ((i : Int) + 1).toNat - 1 = i from by omega, if_pos ⟨by omega, hlv⟩]
   obtain ⟨v, r, st, ev, hA, hrw, er⟩ := HA
   rw [er]
   rw [ev] at hlook
   have HA : Hid (Calls Try.prog 30 #[v] W fun e w' => e = .returned (.tuple #[.int .i64 r, .int .i64 st]) ∧ Ext W w') := hA
   have HT : Hid (∀ wx, Ext W wx → Calls Try.prog 24 #[.pointer (some ⟨cb, 0, none⟩), .int .i64 ((i : Int) + 1), .agg #[.int .i64 4, .int .i64 0, .int .i64 r, .int .i64 step, .string ⟨#[]⟩]] wx fun e w' => e = .returned (.tuple #[]) ∧ CY w cb q (takeC q c i ⟨4, 0, r, step, emp⟩) w') := fun wx hx => ctake_any (HYW.out.ext hx) hs hi7 h7 hN hn ⟨4, 0, r, step, emp⟩ hrw
   clear hc hz1 hz2 hs hN hil hh hk hl h7 h0 ed hI hkw hA hrw er ev HYW
   generalize takeC q c i ⟨4, 0, r, step, emp⟩ = c2 at *
   go_enter Try.func20, Try.ntmps20
   go_wp2_with fail
   refine HH.out.mono ?_
   rintro e w1 ⟨rfl, rfl⟩
   go_wp2_with fail
   refine HA.out.mono ?_
   rintro e w2 ⟨rfl, hx⟩
   have HX : Hid (Ext w1 w2) := hx
   clear hx HA HH c1 hlook hb
   go_wp2_with fail
   refine (HT.out _ HX.out).mono ?_
   rintro e w3 ⟨rfl, hx⟩
   have HY3 : Hid (CY w cb q c2 w3) := hx
   clear hx HX HT
   go_wp2
   go_ret
   exact ⟨rfl, HY3.out⟩
 · have ed : timC q c node step = (c, false) := by
    unfold timC
    rw [if_neg (fun z => hk ⟨z.1, by have := z.2; rw [hl] at this; exact this⟩)]
   rw [ed]
   have HH : Hid (Calls Try.prog 21 #[.pointer (some ⟨cb, 0, none⟩), .int .i64 node] W fun e w' => e = .returned (.bool false) ∧ w' = W) := by
    have := hon_any hb h0 node
    rw [decide_eq_false hk] at this
    exact this
   clear h hI hl h7 h0 hb hk ed
   go_enter Try.func20, Try.ntmps20
   go_wp2_with fail
   refine HH.out.mono ?_
   rintro e w1 ⟨rfl, rfl⟩
   go_wp2
   go_ret
   exact ⟨rfl, HYW.out⟩
end
end Go.Proofs.Ytkfpmjepeikpjaa
