/-
 CouncilCalm.
-/
import Derived.Test.YtkfpmjepeikpjaaLc
namespace Go.Proofs.Ytkfpmjepeikpjaa
open Go.RowKit Go.Maps
set_option maxRecDepth 10000
theorem calm_lead {n t ht : Int} {vals : List ByteArray} (hok : okNew n t ht vals) (hq : hasQ n t) (h0 : 0 ≤ ht) (h64 : ht ≤ 64) {l : Nat} (hl : Int.tmod ht n = (l : Int)) (hlt : l < vals.length) :
  ∃ nd, dlC (mkC n t ht vals) (startC (mkC n t ht vals) vals.length) 400 = ⟨nd, []⟩ ∧ nd.length = vals.length ∧ ∀ k : Int, 1 ≤ k → k ≤ (vals.length : Int) → dcdC ⟨nd, []⟩ k = (vals[l]?.getD emp, true) := by
 have hv : vals ≠ [] := fun e => by subst e; exact absurd hlt (Nat.not_lt_zero l)
 have e : mkC n t ht vals = ⟨n.toNat, t.toNat, ht, vals⟩ := mkC_ne hv
 have hc := ok_new hok
 rw [e] at hc ⊢
 have h7 : vals.length ≤ 7 := okC7 hc
 have hh : vals.length * vals.length ≤ 49 := Nat.mul_le_mul h7 h7
 obtain ⟨q1, q2, q3, q4⟩ := hq
 refine calm_at (q := ⟨n.toNat, t.toNat, ht, vals⟩) hc (l := l) hlt ?_ (n := 400) (by show vals.length * 1 + (vals.length * vals.length + vals.length * vals.length) ≤ 400; omega)
 show leadA ((n.toNat : Nat) : Int) ht 0 = (l : Int) + 1
 rw [show ((n.toNat : Nat) : Int) = n from by omega]
 unfold leadA
 rw [if_pos ⟨by omega, by omega, h0, h64, by decide, by decide⟩, Int.add_zero, hl]
set_option maxHeartbeats 4000000 in
theorem councilCalm_any {W : World} {n t ht : Int} {a : Option Addr} {vals : List ByteArray} {c : Nat} (hn : (Lit.int .i64 n).wf = true) (ht' : (Lit.int .i64 t).wf = true) (hv : VsIs W a vals) :
  Calls Try.prog 5 #[wvC n t ht a vals.length c] W fun e w' => e = .returned (.bool true) ∧ Ext W w' := by
 obtain ⟨X, hX⟩ : ∃ X, W.alloc (.cells #[.int .i64 n, .int .i64 t, .int .i64 ht, .slice a vals.length c] 24) = X := ⟨_, rfl⟩
 have hx : Ext W X := by rw [← hX]; exact (Ext.refl W).alloc _
 have HE : Hid (Ext W X) := hx
 obtain ⟨bx, hbx⟩ : ∃ bx, W.heap.size = bx := ⟨_, rfl⟩
 have hB := blk_wd W n t ht (.slice a vals.length c)
 rw [hX, hbx] at hB
 have HB : Hid (∀ wx, Ext X wx → bx < wx.heap.size ∧ wx.cell? ⟨bx, 0, none⟩ = some (.int .i64 n) ∧ wx.cell? ⟨bx, 1, none⟩ = some (.int .i64 t) ∧ wx.cell? ⟨bx, 2, none⟩ = some (.int .i64 ht) ∧ wx.cell? ⟨bx, 3, none⟩ = some (.slice a vals.length c)) := fun wx hx => by
  have := hB.ext hx
  exact ⟨this.1, (this.2 0 (by decide)).1, (this.2 1 (by decide)).1, (this.2 2 (by decide)).1, (this.2 3 (by decide)).1⟩
 have HV : Hid (VsIs X a vals) := hv.ext hx
 have HF : Hid (Calls Try.prog 7 #[wvC n t ht a vals.length c, .slice none 0 0] X fun e w' => FwP vals [] X e w') := few_any (ds := []) (e := 0) HV.out (fun j d h => by simp at h)
 have HN : Hid (∀ wx, Ext X wx → vals.length ≤ 20 → Calls Try.prog 9 #[.int .i64 n, .int .i64 t, .int .i64 ht, .slice a vals.length c] wx fun e w' => NwC wx n t ht vals e w') := fun wx hx hl => cnew_any hn ht' (HV.out.ext hx) hl
 have HQ : Hid (∀ wx, Calls Try.prog 12 #[.int .i64 n, .int .i64 t] wx fun e w' => e = .returned (.int .i64 (qI n t)) ∧ w' = wx) := fun wx => rquorum_any n t wx
 have HMV : Hid ((mkC n t ht vals).vals = vals) := mk_vals n t ht vals
 clear hB hv hx hn ht'
 obtain ⟨nv, hnv⟩ : ∃ nv, vals.length = nv := ⟨_, rfl⟩
 have HNV : Hid (vals.length = nv) := hnv
 rw [hnv] at hX HB HF HN ⊢
 clear hnv
 obtain ⟨b0, c0, c1, c2, c3⟩ := HB.out X (Ext.refl X)
 go_enter Try.func5, Try.ntmps5
 go_wp2_with fail
 refine HF.out.mono ?_
 rintro e w1 ⟨r, rfl, hr, hx1⟩
 have HX1 : Hid (Ext X w1) := hx1
 clear hx1 HF hX hbx b0 c0 c1 c2 c3
 rcases hr with rfl | ⟨rfl, hf⟩
 · go_wp2_with fail
   refine (awake_any _).mono ?_
   rintro e w9 ⟨rfl, hx9⟩
   have HX9 : Hid (Ext W w9) := (HE.out.trans HX1.out).trans hx9
   clear hx9
   go_wp2
   go_ret
   exact ⟨rfl, HX9.out⟩
 · have HV20 : Hid (nv ≤ 20) := by rw [← HNV.out]; exact hf.1
   have HNw : Hid (Calls Try.prog 9 #[.int .i64 n, .int .i64 t, .int .i64 ht, .slice a nv c] w1 fun e w' => NwC w1 n t ht vals e w') := HN.out w1 HX1.out HV20.out
   obtain ⟨b0, c0, c1, c2, c3⟩ := HB.out w1 HX1.out
   clear hf HN
   by_cases hq : hasQ n t
   · have hqI : qI n t = (n + t) / 2 + 1 := if_pos hq
     have hqn : (qI n t == 0) = false := by
      rw [hqI]
      obtain ⟨q1, q2, q3, q4⟩ := hq
      have : ¬ (n + t) / 2 + 1 = 0 := by omega
      simpa using this
     have HQs : Hid (hasQ n t) := hq
     clear hqI hq
     generalize qI n t = qv at *
     by_cases g1 : ht < 0
     · have d1 : decide (ht < 0) = true := decide_eq_true g1
       clear g1
       go_wp2_with fail
       refine (HQ.out _).mono ?_
       rintro e w2 ⟨rfl, ew2⟩
       replace ew2 := ew2.symm
       subst ew2
       go_wp2_with fail
       refine (awake_any _).mono ?_
       rintro e w9 ⟨rfl, hx9⟩
       have HX9 : Hid (Ext W w9) := (HE.out.trans HX1.out).trans hx9
       clear hx9
       go_wp2
       go_ret
       exact ⟨rfl, HX9.out⟩
     · have d1 : decide (ht < 0) = false := decide_eq_false g1
       by_cases g2 : (64 : Int) < ht
       · have d2 : decide ((64 : Int) < ht) = true := decide_eq_true g2
         clear g1 g2
         go_wp2_with fail
         refine (HQ.out _).mono ?_
         rintro e w2 ⟨rfl, ew2⟩
         replace ew2 := ew2.symm
         subst ew2
         go_wp2_with fail
         refine (awake_any _).mono ?_
         rintro e w9 ⟨rfl, hx9⟩
         have HX9 : Hid (Ext W w9) := (HE.out.trans HX1.out).trans hx9
         clear hx9
         go_wp2
         go_ret
         exact ⟨rfl, HX9.out⟩
       · have d2 : decide ((64 : Int) < ht) = false := decide_eq_false g2
         have HH : Hid (0 ≤ ht ∧ ht ≤ 64) := ⟨by omega, by omega⟩
         obtain ⟨l, hl⟩ : ∃ l : Nat, Int.tmod ht n = (l : Int) := ⟨(Int.tmod ht n).toNat, by have := Int.tmod_nonneg n HH.out.1; omega⟩
         have hl2 : Int.tmod ht n < n := Int.tmod_lt_of_pos ht (by have := HQs.out.2.2.1; have := HQs.out.1; omega)
         have hlw : IntKind.i64.wrap (l : Int) = (l : Int) := by have := HQs.out.2.2.2; rw [IntKind.wrap_i64]; omega
         have hn0 : ¬ n = 0 := by have := HQs.out.2.2.1; have := HQs.out.1; omega
         have HL0 : Hid (Int.tmod ht n = (l : Int)) := hl
         clear g1 g2 hl2
         go_wp2_with fail
         refine (HQ.out _).mono ?_
         rintro e w2 ⟨rfl, ew2⟩
         replace ew2 := ew2.symm
         subst ew2
         go_wp2_with fail
         refine HNw.out.mono ?_
         clear b0 c0 c1 c2 c3 HNw d1 d2 HQ hqn
         rintro e w2 (⟨_, rfl, hx2⟩ | ⟨hok, cb, rfl, hy2⟩)
         · have HX2 : Hid (Ext X w2) := HX1.out.trans hx2
           obtain ⟨b0, c0, c1, c2, c3⟩ := HB.out w2 HX2.out
           clear hx2
           go_wp2_with fail
           refine (awake_any _).mono ?_
           rintro e w9 ⟨rfl, hx9⟩
           have HX9 : Hid (Ext W w9) := (HE.out.trans HX2.out).trans hx9
           clear hx9
           go_wp2
           go_ret
           exact ⟨rfl, HX9.out⟩
         · obtain ⟨b0, c0, c1, c2, c3⟩ := HB.out w2 (HX1.out.trans hy2.old)
           by_cases g3 : (nv : Int) ≤ (l : Int)
           · have d3 : nv ≤ l := by omega
             have HX2 : Hid (Ext W w2) := HE.out.trans (HX1.out.trans hy2.old)
             clear g3 hy2 hok
             go_wp2_with fail
             refine (awake_any _).mono ?_
             rintro e w9 ⟨rfl, hx9⟩
             have HX9 : Hid (Ext W w9) := (HX2.out).trans hx9
             clear hx9
             go_wp2
             go_ret
             exact ⟨rfl, HX9.out⟩
           · have d3 : decide (nv ≤ l) = false := decide_eq_false (by omega)
             have hlt : l < vals.length := by rw [HNV.out]; omega
             obtain ⟨nd, n1, n2, n3⟩ := calm_lead hok HQs.out HH.out.1 HH.out.2 HL0.out hlt
             obtain ⟨B, hBl⟩ : ∃ B, vals[l]? = some B := ⟨vals[l], List.getElem?_eq_getElem hlt⟩
             rw [hBl] at n3
             have hq2 := ok_new hok
             have hst := CI.start hq2
             rw [HMV.out] at hst
             have HI : Hid (CI (mkC n t ht vals) (startC (mkC n t ht vals) vals.length) 0) := hst
             have HY : Hid (CY w1 cb (mkC n t ht vals) (startC (mkC n t ht vals) vals.length) w2) := hy2
             rw [HNV.out] at n2 n3
             have HND : Hid (dlC (mkC n t ht vals) (startC (mkC n t ht vals) vals.length) 400 = ⟨nd, []⟩ ∧ nd.length = nv ∧ ∀ k : Int, 1 ≤ k → k ≤ (nv : Int) → dcdC ⟨nd, []⟩ k = (B, true)) := ⟨n1, n2, n3⟩
             obtain ⟨vb, vo, ea, _, _⟩ := HV.out l B hBl
             have HVC : Hid (∀ wx, Ext X wx → vb < wx.heap.size ∧ wx.cell? ⟨vb, vo + l, none⟩ = some (.string B)) := fun wx hx => by
              obtain ⟨vb', vo', ea', h1, h2⟩ := (HV.out.ext hx) l B hBl
              rw [ea] at ea'
              injection ea' with ea'
              injection ea' with e1 e2 _
              subst e1 e2
              exact ⟨h1, h2⟩
             subst ea
             have HL : Hid ((0 : Int) ≤ (l : Int) ∧ (l : Int) < (nv : Int)) := ⟨by omega, by omega⟩
             have hcb : cb < w2.heap.size := by obtain ⟨_, _, h⟩ := hy2; exact h.honest.1
             clear hok hq2 hst hy2 n1 n2 n3 hBl hlt g3
             generalize startC (mkC n t ht vals) vals.length = s0 at *
             generalize mkC n t ht vals = q at *
             go_wp2_with fail
             clear b0 c0 c1 c2 c3 d3 hl hlw hn0 hcb
             go_loopw [5] (fun u5 wr => ∃ i : Nat, i ≤ 400 ∧ u5 = .int .i64 i ∧ Hid (CY w1 cb q (dlC q s0 i) wr)) (fun u5 _ => 400 - (intOf u5).toNat)
             case atStart => exact ⟨0, Nat.zero_le _, rfl, HY⟩
             case round =>
              obtain ⟨i, hi, rfl, HXi⟩ := hrel
              clear HY
              by_cases hli : i < 400
              · have p1 : (i : Int) < 400 := by omega
                have pw : IntKind.i64.wrap ((i : Int) + 1) = (i : Int) + 1 := by rw [IntKind.wrap_i64]; omega
                have Hli : Hid (i < 400) := hli
                have HDv : Hid (Calls Try.prog 13 #[.pointer (some ⟨cb, 0, none⟩), .int .i64 0] wr fun e w' => e = .returned (.bool (delC q (dlC q s0 i) 0).2) ∧ CY w1 cb q (delC q (dlC q s0 i) 0).1 w') := deliver_any HXi.out (HI.out.dl i) (by omega) 0
                clear hi hli
                cases hb : (delC q (dlC q s0 i) 0).2 with
                | true =>
                 rw [hb] at HDv
                 clear hb
                 go_wp2_with fail
                 refine HDv.out.mono ?_
                 rintro e w4 ⟨rfl, hy4⟩
                 have HY4 : Hid (CY w1 cb q (dlC q s0 (i + 1)) w4) := hy4
                 clear hy4 HXi HDv
                 go_wp2_with fail
                 go_roundw
                 case rel => exact ⟨i + 1, Hli.out, by push_cast; rfl, HY4⟩
                 case measure => exact lp_meas (n := 400) Hli.out
                | false =>
                 rw [hb, dl_stop hb (Nat.le_of_lt Hli.out), HND.out.1] at HDv
                 clear hb
                 go_wp2_with fail
                 refine HDv.out.mono ?_
                 rintro e wr' ⟨rfl, hy4⟩
                 have HX : Hid (CY w1 cb q ⟨nd, []⟩ wr') := hy4
                 clear hy4 HDv HXi
                 rename World => wr
                 have HYF : Hid (CY w1 cb q ⟨nd, []⟩ wr) := HX
                 have HIF : Hid (CI q ⟨nd, []⟩ 400) := by
                  have := HI.out.dl 400
                  rw [HND.out.1, Nat.zero_add] at this
                  exact this
                 clear HX
                 go_wp2_with fail
                 go_loopw [6] (fun u6 wr => ∃ k : Nat, k ≤ nv ∧ u6 = .int .i64 ((k : Int) + 1) ∧ Hid (CY w1 cb q ⟨nd, []⟩ wr)) (fun u6 _ => nv + 1 - (intOf u6).toNat)
                 case atStart => exact ⟨0, Nat.zero_le _, rfl, HYF⟩
                 case round =>
                  obtain ⟨k, hk, rfl, HYL⟩ := hrel
                  clear HYF
                  have hxr : Ext X wr := HX1.out.trans HYL.out.old
                  obtain ⟨b0, _, _, _, c3⟩ := HB.out wr hxr
                  have hv20 := HV20.out
                  by_cases hlk : k < nv
                  · have HD : Hid (Calls Try.prog 11 #[.pointer (some ⟨cb, 0, none⟩), .int .i64 ((k : Int) + 1)] wr fun e w' => e = .returned (.tuple #[.string B, .bool true]) ∧ Ext wr w') := by
                     have := decided_any HYL.out HIF.out ((k : Int) + 1)
                     rw [HND.out.2.2 _ (by omega) (by omega)] at this
                     exact this
                    have q1 : (k : Int) + 1 ≤ (nv : Int) := by omega
                    have q2 : IntKind.i64.wrap ((k : Int) + 1 + 1) = (k : Int) + 1 + 1 := by rw [IntKind.wrap_i64]; omega
                    have Hk : Hid (k + 1 ≤ nv) := hlk
                    have Hm : Hid (nv + 1 - (intOf (.int .i64 ((k : Int) + 1 + 1))).toNat < nv + 1 - (intOf (.int .i64 ((k : Int) + 1))).toNat) := by show nv + 1 - ((k : Int) + 1 + 1).toNat < nv + 1 - ((k : Int) + 1).toNat; omega
                    clear hk hlk hv20 hxr
                    go_wp2_with fail
                    refine HD.out.mono ?_
                    rintro e w5 ⟨rfl, hx5⟩
                    have HYN : Hid (CY w1 cb q ⟨nd, []⟩ w5) := HYL.out.ext hx5
                    clear HYL hx5 HD b0 c3
                    have hx5 : Ext X w5 := HX1.out.trans HYN.out.old
                    obtain ⟨b0, _, _, _, c3⟩ := HB.out w5 hx5
                    obtain ⟨vlt, vc⟩ := HVC.out w5 hx5
                    obtain ⟨g0, g1⟩ := HL.out
                    clear hx5
                    go_wp2_with fail
                    clear b0 c3 vlt vc g0 g1
                    go_roundw
                    case rel => exact ⟨k + 1, Hk.out, by push_cast; rfl, HYN⟩
                    case measure => exact Hm.out
                  · have q1 : ¬ (k : Int) + 1 ≤ (nv : Int) := by omega
                    have HWt : Hid (Calls Try.prog 14 #[.pointer (some ⟨cb, 0, none⟩)] wr fun e w' => e = .returned (.int .i64 0) ∧ w' = wr) := waiting_any HYL.out
                    have HX5 : Hid (Ext W wr) := HE.out.trans hxr
                    clear hk hlk hv20 hxr
                    go_wp2_with fail
                    refine HWt.out.mono ?_
                    rintro e w5 ⟨rfl, ew5⟩
                    replace ew5 := ew5.symm
                    subst ew5
                    clear HYL HWt b0 c3
                    go_wp2_with fail
                    refine (awake_any _).mono ?_
                    rintro e w6 ⟨rfl, hx6⟩
                    have HX6 : Hid (Ext W w6) := HX5.out.trans hx6
                    clear hx6 HX5
                    go_wp2
                    go_ret
                    exact ⟨rfl, HX6.out⟩
              · obtain rfl : i = 400 := by omega
                have p1 : ¬ ((400 : Nat) : Int) < 400 := by decide
                have HX : Hid (CY w1 cb q ⟨nd, []⟩ wr) := by have := HXi.out; rw [HND.out.1] at this; exact this
                clear HXi hi hli
                have HYF : Hid (CY w1 cb q ⟨nd, []⟩ wr) := HX
                have HIF : Hid (CI q ⟨nd, []⟩ 400) := by
                 have := HI.out.dl 400
                 rw [HND.out.1, Nat.zero_add] at this
                 exact this
                clear HX
                go_wp2_with fail
                go_loopw [6] (fun u6 wr => ∃ k : Nat, k ≤ nv ∧ u6 = .int .i64 ((k : Int) + 1) ∧ Hid (CY w1 cb q ⟨nd, []⟩ wr)) (fun u6 _ => nv + 1 - (intOf u6).toNat)
                case atStart => exact ⟨0, Nat.zero_le _, rfl, HYF⟩
                case round =>
                 obtain ⟨k, hk, rfl, HYL⟩ := hrel
                 clear HYF
                 have hxr : Ext X wr := HX1.out.trans HYL.out.old
                 obtain ⟨b0, _, _, _, c3⟩ := HB.out wr hxr
                 have hv20 := HV20.out
                 by_cases hlk : k < nv
                 · have HD : Hid (Calls Try.prog 11 #[.pointer (some ⟨cb, 0, none⟩), .int .i64 ((k : Int) + 1)] wr fun e w' => e = .returned (.tuple #[.string B, .bool true]) ∧ Ext wr w') := by
                    have := decided_any HYL.out HIF.out ((k : Int) + 1)
                    rw [HND.out.2.2 _ (by omega) (by omega)] at this
                    exact this
                   have q1 : (k : Int) + 1 ≤ (nv : Int) := by omega
                   have q2 : IntKind.i64.wrap ((k : Int) + 1 + 1) = (k : Int) + 1 + 1 := by rw [IntKind.wrap_i64]; omega
                   have Hk : Hid (k + 1 ≤ nv) := hlk
                   have Hm : Hid (nv + 1 - (intOf (.int .i64 ((k : Int) + 1 + 1))).toNat < nv + 1 - (intOf (.int .i64 ((k : Int) + 1))).toNat) := by show nv + 1 - ((k : Int) + 1 + 1).toNat < nv + 1 - ((k : Int) + 1).toNat; omega
                   clear hk hlk hv20 hxr
                   go_wp2_with fail
                   refine HD.out.mono ?_
                   rintro e w5 ⟨rfl, hx5⟩
                   have HYN : Hid (CY w1 cb q ⟨nd, []⟩ w5) := HYL.out.ext hx5
                   clear HYL hx5 HD b0 c3
                   have hx5 : Ext X w5 := HX1.out.trans HYN.out.old
                   obtain ⟨b0, _, _, _, c3⟩ := HB.out w5 hx5
                   obtain ⟨vlt, vc⟩ := HVC.out w5 hx5
                   obtain ⟨g0, g1⟩ := HL.out
                   clear hx5
                   go_wp2_with fail
                   clear b0 c3 vlt vc g0 g1
                   go_roundw
                   case rel => exact ⟨k + 1, Hk.out, by push_cast; rfl, HYN⟩
                   case measure => exact Hm.out
                 · have q1 : ¬ (k : Int) + 1 ≤ (nv : Int) := by omega
                   have HWt : Hid (Calls Try.prog 14 #[.pointer (some ⟨cb, 0, none⟩)] wr fun e w' => e = .returned (.int .i64 0) ∧ w' = wr) := waiting_any HYL.out
                   have HX5 : Hid (Ext W wr) := HE.out.trans hxr
                   clear hk hlk hv20 hxr
                   go_wp2_with fail
                   refine HWt.out.mono ?_
                   rintro e w5 ⟨rfl, ew5⟩
                   replace ew5 := ew5.symm
                   subst ew5
                   clear HYL HWt b0 c3
                   go_wp2_with fail
                   refine (awake_any _).mono ?_
                   rintro e w6 ⟨rfl, hx6⟩
                   have HX6 : Hid (Ext W w6) := HX5.out.trans hx6
                   clear hx6 HX5
                   go_wp2
                   go_ret
                   exact ⟨rfl, HX6.out⟩
   · have hqn : (qI n t == 0) = true := by
      have : qI n t = 0 := if_neg hq
      simpa using this
     clear hq
     generalize qI n t = qv at *
     go_wp2_with fail
     refine (HQ.out _).mono ?_
     rintro e w2 ⟨rfl, ew2⟩
     replace ew2 := ew2.symm
     subst ew2
     go_wp2_with fail
     refine (awake_any _).mono ?_
     rintro e w9 ⟨rfl, hx9⟩
     have HX9 : Hid (Ext W w9) := (HE.out.trans HX1.out).trans hx9
     clear hx9
     go_wp2
     go_ret
     exact ⟨rfl, HX9.out⟩
end Go.Proofs.Ytkfpmjepeikpjaa
