/-
 AgreeLocks.
-/
import Derived.Test.YtmanacbdldfmfaaLb
namespace Go.Proofs.Ytmanacbdldfmfaa
open Go.RowKit
set_option maxRecDepth 10000
theorem okP_of {z : Vt} (h : okPm z.kd z.fr z.rd z.va z.vl) : ∃ p : Pm, okP p ∧ (p.n : Int) = z.kd ∧ (p.t : Int) = z.fr ∧ p.me = z.rd ∧ p.ht = z.va ∧ p.own = z.vl := by
 obtain ⟨⟨q1, q2, q3, q4⟩, q5⟩ := h
 have e1 : ((z.kd.toNat : Nat) : Int) = z.kd := by omega
 have e2 : ((z.fr.toNat : Nat) : Int) = z.fr := by omega
 refine ⟨⟨z.kd.toNat, z.fr.toNat, z.rd, z.va, z.vl⟩, ?_, e1, e2, rfl, rfl, rfl⟩
 show okPm _ _ _ _ _
 rw [e1, e2]
 exact ⟨⟨q1, q2, q3, q4⟩, q5⟩
/-- The state behind some words. -/
def runA (p : Pm) (M : List Vt) : Nat → Ag
 | 0 => (startA p newA).1
 | i + 1 => match M[i]? with
  | some m => (takeA p (runA p M i) m).1
  | none => runA p M i
theorem runA_fa {p : Pm} (hp : okP p) (M : List Vt) : ∀ i, FA p (runA p M i) i
 | 0 => FA.start hp
 | i + 1 => by
  have h := runA_fa hp M i
  unfold runA
  cases M[i]? with
  | some m => exact h.take m
  | none => obtain ⟨h1, h2, h3, h4, h5⟩ := h; exact ⟨h1, h2, h3, h4, by dsimp only; omega⟩
theorem runA_step {p : Pm} {M : List Vt} {i : Nat} {m : Vt} (h : M[i]? = some m) : runA p M (i + 1) = (takeA p (runA p M i) m).1 := by
 show (match M[i]? with | some m => (takeA p (runA p M i) m).1 | none => runA p M i) = _
 rw [h]
theorem rule_len {p : Pm} {s : Ag} {x : Ag × List Vt} (e : ruleA p s = some x) : x.2.length ≤ 1 := by
 rcases rule_case e with q | q | q | q | q
 ·rw [(r1_done q).2]; simp
 ·exact (dn2 q.2).2
 ·exact (dn3 q.2).2
 ·exact (dn5 q.2).2
 ·exact (dn6 q.2).2
theorem stl_len {p : Pm} : ∀ (n : Nat) {s : Ag}, InvA p s → 0 ≤ s.rd → mu s ≤ n → (stl p s).2.length ≤ mu s
 | n, s, h, h0, hn => by
  by_cases hd : s.dn = true
  ·rw [stl_done hd]; simp
  ·have hd2 : s.dn = false := by simpa using hd
   cases e : ruleA p s with
   | none => rw [stl_none e]; simp
   | some x =>
    have q := step_rule h h0 hd2 e
    have l := rule_len e
    obtain ⟨s', o⟩ := x
    rw [stl_some h h0 hd2 e]
    cases n with
    | zero => have := q.mu; omega
    | succ n =>
     have := stl_len n q.inv q.rd (by have := q.mu; omega)
     have := q.mu
     dsimp only at *
     rw [List.length_append]
     omega
theorem take_len {p : Pm} {s : Ag} (hi : InvA p s) (m : Vt) : (takeA p s m).2.length ≤ 257 := by
 by_cases hc : s.rd < 0 ∨ s.dn = true
 ·unfold takeA; rw [if_pos hc]; simp
 ·have h0 : 0 ≤ s.rd := by omega
  have hd : s.dn = false := by simpa using fun q => hc (.inr q)
  rw [take_eq h0 hd]
  have c4 := (cnt_facts hi h0 hd m).2.2.2
  unfold cntA at c4
  cases e : countA p s m with
  | none => simp
  | some x =>
   obtain ⟨q1, q2, _, _⟩ := inv_count hi h0 e
   rw [e] at c4
   obtain ⟨s', o⟩ := x
   have h1 := stl_len _ q1 q2 (Nat.le_refl _)
   have h2 := mu_le q1 q2
   dsimp only at *
   rw [List.length_append]
   have c5 : o.length ≤ 1 := c4
   omega
set_option maxHeartbeats 16000000 in
theorem agreeLocks_any (z : Vt) (v : Value) (M : List Vt) (w : World) (hM : WsIs w v M) (hMw : ∀ m ∈ M, (Lit.int .i64 m.rd).wf = true) : Calls Try.prog 6 #[wv z, v] w fun e w' => e = .returned (.bool true) ∧ Ext w w' := by
 have HL0 : Hid (WsIs w v M) := hM
 have HMw : Hid (∀ m ∈ M, (Lit.int .i64 m.rd).wf = true) := hMw
 have HE0 : Hid (Ext w (w.alloc (.cells #[.int .i64 z.kd, .int .i64 z.fr, .int .i64 z.rd, .int .i64 z.va, .string z.vl] 26))) := (Ext.refl w).alloc _
 have HZ : Hid (∀ wx, Ext (w.alloc (.cells #[.int .i64 z.kd, .int .i64 z.fr, .int .i64 z.rd, .int .i64 z.va, .string z.vl] 26)) wx → wx.cell? ⟨w.heap.size, 0, none⟩ = some (.int .i64 z.kd) ∧ wx.cell? ⟨w.heap.size, 1, none⟩ = some (.int .i64 z.fr) ∧ wx.cell? ⟨w.heap.size, 2, none⟩ = some (.int .i64 z.rd) ∧ wx.cell? ⟨w.heap.size, 3, none⟩ = some (.int .i64 z.va) ∧ wx.cell? ⟨w.heap.size, 4, none⟩ = some (.string z.vl) ∧ w.heap.size < wx.heap.size) := fun wx hx => ⟨later hx (by rw [World.cell?_alloc_at _ _ _ _ rfl]; rfl), later hx (by rw [World.cell?_alloc_at _ _ _ _ rfl]; rfl), later hx (by rw [World.cell?_alloc_at _ _ _ _ rfl]; rfl), later hx (by rw [World.cell?_alloc_at _ _ _ _ rfl]; rfl), later hx (by rw [World.cell?_alloc_at _ _ _ _ rfl]; rfl), Nat.lt_of_lt_of_le (by simp) hx.size⟩
 obtain ⟨va, vc, rfl, _⟩ := hM
 obtain ⟨N, HN⟩ : ∃ N, Hid (M.length = N) := ⟨_, rfl⟩
 have HL := HL0
 rw [HN.out] at HL ⊢
 clear HL0 hMw
 go_enter Try.func6, Try.ntmps6
 go_wp2_with fail
 obtain ⟨W, hW⟩ : ∃ W, (w.alloc (.cells #[.int .i64 z.kd, .int .i64 z.fr, .int .i64 z.rd, .int .i64 z.va, .string z.vl] 26)) = W := ⟨_, rfl⟩
 rw [hW] at HE0 HZ ⊢
 clear hW
 refine (few_any _ M W (by rw [← HN.out] at *; exact HL.out.ext HE0.out)).mono ?_
 rintro e w1 ⟨x, rfl, hx, HX⟩
 have HX1 : Hid (Ext W w1) := HX
 clear HX
 rcases hx with rfl | ⟨rfl, hl⟩
 ·go_wp2_with fail
  refine (awake_any _).mono ?_
  rintro e w2 ⟨rfl, HX⟩
  have HX2 : Hid (Ext w w2) := HE0.out.trans (HX1.out.trans HX)
  clear HX
  go_wp2_with fail
  go_ret
  exact ⟨rfl, HX2.out⟩
 have Hl : Hid (N ≤ 60) := by show N ≤ 60; rw [← HN.out]; exact hl
 clear hl
 obtain ⟨y0, y1, y2, y3, y4, yl⟩ := HZ.out _ HX1.out
 by_cases hv : (5000 : Int) < (z.vl.size : Int)
 ·have dv : decide ((5000 : Int) < (z.vl.size : Int)) = true := decide_eq_true hv
  clear hv
  go_wp2_with fail
  refine (awake_any _).mono ?_
  rintro e w2 ⟨rfl, HX⟩
  have HX2 : Hid (Ext w w2) := HE0.out.trans (HX1.out.trans HX)
  clear HX
  go_wp2_with fail
  go_ret
  exact ⟨rfl, HX2.out⟩
 have dv : decide ((5000 : Int) < (z.vl.size : Int)) = false := decide_eq_false hv
 clear hv
 by_cases hp0 : okPm z.kd z.fr z.rd z.va z.vl
 case neg =>
  have HB : Hid (¬ okPm z.kd z.fr z.rd z.va z.vl) := hp0
  clear hp0
  go_wp2_with fail
  refine (anew_bad _ _ _ _ _ HB.out _).mono ?_
  rintro e w2 ⟨rfl, HX⟩
  have HX2 : Hid (Ext w w2) := HE0.out.trans (HX1.out.trans HX)
  clear HX y0 y1 y2 y3 y4 yl
  go_wp2_with fail
  refine (awake_any _).mono ?_
  rintro e w3 ⟨rfl, HX⟩
  have HX3 : Hid (Ext w w3) := HX2.out.trans HX
  clear HX
  go_wp2_with fail
  go_ret
  exact ⟨rfl, HX3.out⟩
 obtain ⟨p, hp, p1, p2, p3, p4, p5⟩ := okP_of hp0
 have Hp : Hid (okP p) := hp
 have Hme : Hid (p.me = z.rd) := p3
 have HNw : Hid (Calls Try.prog 12 #[.int .i64 z.kd, .int .i64 z.fr, .int .i64 z.rd, .int .i64 z.va, .string z.vl] w1 fun e w' => ∃ b, e = .returned (.pointer (some ⟨b, 0, none⟩)) ∧ LW W b p newA [] (.slice none 0 0) w') := by
  have := lnew_good (w := W) hp HX1.out
  rw [p1, p2, p3, p4, p5] at this
  exact this
 clear hp hp0 p1 p2 p3 p4 p5
 go_wp2_with fail
 refine HNw.out.mono ?_
 rintro e w2 ⟨b, rfl, hW⟩
 have HW : Hid (LW W b p newA [] (.slice none 0 0) w2) := hW
 clear hW HNw y0 y1 y2 y3 y4 yl HX1
 go_wp2_with fail
 refine (lstart_any Hp.out (inv_new p) HW.out).mono ?_
 rintro e w3 ⟨a, n, c, rfl, hX⟩
 have HW3 : Hid (LW W b p (runA p M 0) [] (.slice none 0 0) w3) := hX.1
 clear hX HW
 go_wp2_with fail
 refine (llocked (runA_fa Hp.out M 0).2.1 HW3.out).mono ?_
 rintro e w4 ⟨rfl, HX⟩
 have HW4 : Hid (LW W b p (runA p M 0) [] (.slice none 0 0) w4) := HW3.out.ext HX
 clear HX HW3
 go_wp2_with fail
 go_loopw [7, 8] (fun u7 u8 wr => ∃ i : Nat, i ≤ N ∧ u8 = .int .i64 i ∧ u7 = .int .i64 (runA p M i).lr ∧ Hid (LW W b p (runA p M i) [] (.slice none 0 0) wr)) (fun _ u8 _ => N - (intOf u8).toNat)
 case atStart => exact ⟨0, Nat.zero_le _, rfl, rfl, HW4⟩
 case round =>
  clear HW4
  obtain ⟨i, hi, rfl, rfl, HWi⟩ := hrel
  by_cases hlt : i < N
  ·obtain ⟨q1, q0, qw⟩ := lp_nums i N hlt (by have := Hl.out; omega)
   obtain ⟨m, hm⟩ : ∃ m, M[i]? = some m := ⟨M[i]'(by rw [HN.out]; exact hlt), List.getElem?_eq_getElem _⟩
   have HL2 : WsIs wr (.slice va M.length vc) M := by rw [HN.out]; exact HL.out.ext (HE0.out.trans HWi.out.old)
   obtain ⟨g, og, rfl, hbl, hd0, hd1, hd2, hd3, hd4⟩ := HL2.get hm
   clear HL2
   have HS : Hid (runA p M (i + 1) = (takeA p (runA p M i) m).1) := runA_step hm
   have HFA : Hid (FA p (runA p M (i + 1)) (i + 1)) := runA_fa Hp.out M (i + 1)
   have HT : Hid (Calls Try.prog 14 #[.pointer (some ⟨b, 0, none⟩), .agg #[.int .i64 m.kd, .int .i64 m.fr, .int .i64 m.rd, .int .i64 m.va, .string m.vl]] wr fun e w' => ∃ a' n' c', e = .returned (.slice a' n' c') ∧ LX W b p (takeA p (runA p M i) m).1 [] (.slice none 0 0) (takeA p (runA p M i) m).2 (.slice a' n' c') w') := ltake_any m (runA_fa Hp.out M i) (by have := Hl.out; omega) (HMw.out m (List.mem_of_getElem? hm)) HWi.out
   have HK : Hid (LockA p (runA p M i).lr (takeA p (runA p M i) m).1 (takeA p (runA p M i) m).2) := lock_take (runA_fa Hp.out M i).2.1 m
   have Hm : Hid (N - (intOf (.int .i64 ((i : Int) + 1))).toNat < N - (intOf (.int .i64 (i : Int))).toNat) := lp_meas hlt
   rw [← HS.out] at HT HK
   obtain ⟨s', HS'⟩ : ∃ s', Hid (runA p M (i + 1) = s') := ⟨_, rfl⟩
   rw [HS'.out] at HT HK HFA
   have Hle0 : Hid ((takeA p (runA p M i) m).2.length ≤ 257) := take_len (runA_fa Hp.out M i).2.1 m
   generalize (takeA p (runA p M i) m).2 = out at *
   clear hm HWi
   go_wp2_with fail
   refine HT.out.mono ?_
   rintro e w5 ⟨oa, on, oc, rfl, hX⟩
   have en := own_n hX.2
   subst en
   have HX5 : Hid (LX W b p s' [] (.slice none 0 0) out (.slice oa out.length oc) w5) := hX
   clear hX HT hbl hd0 hd1 hd2 hd3 hd4
   go_wp2_with fail
   refine (llocked HFA.out.2.1 HX5.out.1).mono ?_
   rintro e w6 ⟨rfl, HX⟩
   have HX6 : Hid (LX W b p s' [] (.slice none 0 0) out (.slice oa out.length oc) w6) := HX5.out.ext HX
   clear HX HX5
   go_wp2_with fail
   refine (lat HX6.out.1).mono ?_
   rintro e w7 ⟨rfl, HX⟩
   have HX7 : Hid (LX W b p s' [] (.slice none 0 0) out (.slice oa out.length oc) w7) := HX6.out.ext HX
   clear HX HX6
   have dl : decide (s'.lr < (runA p M i).lr) = false := decide_eq_false (by have := HK.out.1; omega)
   have dg : decide (s'.rd < s'.lr) = false := decide_eq_false (by have := HFA.out.2.1.lr.2; omega)
   have Hle : Hid (out.length ≤ 257) := Hle0.out
   clear Hle0
   obtain ⟨on, Hon⟩ : ∃ on, Hid (out.length = on) := ⟨_, rfl⟩
   rw [Hon.out] at HX7 Hle ⊢
   go_wp2_with fail
   go_loopw [14] (fun u14 wq => ∃ k : Nat, k ≤ on ∧ u14 = .int .i64 k ∧ Hid (LX W b p s' [] (.slice none 0 0) out (.slice oa on oc) wq)) (fun u14 _ => on - (intOf u14).toNat)
   case atStart => exact ⟨0, Nat.zero_le _, rfl, HX7⟩
   case round =>
    clear HX7
    obtain ⟨k, hk, rfl, HXk⟩ := hrel
    by_cases hlk : k < on
    ·obtain ⟨r1', r0', rw'⟩ := lp_nums k on hlk (by have := Hle.out; omega)
     obtain ⟨y, hy⟩ : ∃ y, out[k]? = some y := ⟨out[k]'(by rw [Hon.out]; exact hlk), List.getElem?_eq_getElem _⟩
     have HL2 : WsIs wr (.slice oa out.length oc) out := by
      have := own_ws HXk.out.2
      rw [← Hon.out] at this
      exact this
     obtain ⟨g2, og2, rfl, hbl2, he0, he1, he2, he3, he4⟩ := HL2.get hy
     clear HL2
     have Hq : Hid (y.kd = 3 → y.vl ≠ emp → y.vl = s'.lk ∧ y.rd = s'.lr) := fun u1 u2 => by
      have := HK.out.2 y (List.mem_of_getElem? hy) u1 u2
      exact ⟨this.1, this.2.1⟩
     clear hy
     by_cases h3 : y.kd = 3
     ·have e3 : (y.kd == 3) = true := by simpa using h3
      by_cases hz : y.vl.size = 0
      ·have q4 := isEmpty_nil hz
       have q5 := toList_nil hz
       clear hz h3 Hq
       go_wp2_with fail
       go_roundw
       case rel => exact ⟨k + 1, hlk, by push_cast; rfl, HXk⟩
       case measure => exact lp_meas hlk
      ·have q4 := isEmpty_some hz
       have q5 := toList_some hz
       obtain ⟨u1, u2⟩ := Hq.out h3 (fun q => hz (size_emp q))
       have b1 := toList_same u1
       have b2 : (y.vl.toList != s'.lk.toList) = false := by simp [bne, b1]
       have b3 : (y.rd != s'.lr) = false := by simpa using u2
       clear hz h3 Hq u1 u2
       go_wp2_with fail
       go_roundw
       case rel => exact ⟨k + 1, hlk, by push_cast; rfl, HXk⟩
       case measure => exact lp_meas hlk
     ·have e3 : (y.kd == 3) = false := by simpa using h3
      clear h3 Hq
      go_wp2_with fail
      go_roundw
      case rel => exact ⟨k + 1, hlk, by push_cast; rfl, HXk⟩
      case measure => exact lp_meas hlk
    ·obtain rfl : k = on := by omega
     have hnl : ¬ (k : Int) < (k : Int) := by omega
     go_wp2_with fail
     go_roundw
     case rel => exact ⟨i + 1, hlt, by push_cast; rfl, by rw [HS'.out], by show LW _ _ _ _ _ _ _; rw [HS'.out]; exact HXk.out.1⟩
     case measure => exact Hm.out
  ·obtain rfl : i = N := by omega
   have hnl : ¬ (i : Int) < (i : Int) := by omega
   go_wp2_with fail
   refine (awake_any _).mono ?_
   rintro e w5 ⟨rfl, HX⟩
   have HX2 : Hid (Ext w w5) := HE0.out.trans (HWi.out.old.trans HX)
   clear HX
   go_wp2_with fail
   go_ret
   exact ⟨rfl, HX2.out⟩
end Go.Proofs.Ytmanacbdldfmfaa
