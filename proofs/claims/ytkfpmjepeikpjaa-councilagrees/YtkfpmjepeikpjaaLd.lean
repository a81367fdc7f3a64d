/-
 CouncilAgrees.
-/
import Derived.Test.YtkfpmjepeikpjaaLc
namespace Go.Proofs.Ytkfpmjepeikpjaa
open Go.RowKit Go.Maps
set_option maxRecDepth 10000
/-- Who has decided stays. -/
theorem takeC_stay {q : Cp} {c : Cn} {i : Nat} {s : Ag} (hs : c.nd[i]? = some s) (hd : s.dn = true) (j : Nat) (m : Vt) : (takeC q c j m).nd[i]? = some s := by
 unfold takeC
 cases e : c.nd[j]? with
 | none => exact hs
 | some u =>
  show (c.nd.set j _)[i]? = _
  rw [List.getElem?_set]
  split
  · rename_i h
    subst h
    rw [e] at hs
    injection hs with hs
    subst hs
    rw [take_done hd, if_pos (List.getElem?_eq_some_iff.1 e).1]
  · exact hs
theorem doC_stay {q : Cp} {c : Cn} {i : Nat} {s : Ag} (hs : c.nd[i]? = some s) (hd : s.dn = true) (d : Dd) : (doC q c d).1.nd[i]? = some s := by
 unfold doC
 split
 · unfold delC
   cases c.wy[atC c d.at']? with
   | none => exact hs
   | some x => exact takeC_stay (c := ⟨c.nd, c.wy.eraseIdx (atC c d.at')⟩) hs hd _ _
 · split
   · unfold losC
     cases c.wy[atC c d.at']? with
     | none => exact hs
     | some x => exact hs
   · split
     · unfold forC
       split
       · exact hs
       · exact hs
     · split
       · unfold timC
         split
         · exact takeC_stay hs hd _ _
         · exact hs
       · exact hs
/-- What was told of is what some node decided. -/
def AgP (c : Cn) (F : ByteArray) (A : Bool) : Prop := A = true → ∃ (i : Nat) (s : Ag), c.nd[i]? = some s ∧ s.dn = true ∧ s.dc = F
theorem AgP.deed {q : Cp} {c : Cn} {F : ByteArray} {A : Bool} (h : AgP c F A) (d : Dd) : AgP (doC q c d).1 F A := fun e => by
 obtain ⟨i, s, h1, h2, h3⟩ := h e
 exact ⟨i, s, doC_stay h1 h2 d, h2, h3⟩
theorem dcd_node {q : Cp} {c : Cn} {n : Nat} (hI : CI q c n) {k : Nat} (hk : k < q.vals.length) : ∃ s, c.nd[k]? = some s ∧ dcdC c ((k : Int) + 1) = (s.dc, s.dn) ∧ (s.dn = true → s.dc.size ≠ 0) := by
 have hl := hI.len
 have hil : k < c.nd.length := by omega
 obtain ⟨s, hs⟩ : ∃ s, c.nd[k]? = some s := ⟨c.nd[k], List.getElem?_eq_getElem hil⟩
 obtain ⟨⟨L, hN⟩, _⟩ := hI.nod hs
 refine ⟨s, hs, ?_, fun h => hN.inv.dc.2.1 h⟩
 unfold dcdC
 rw [if_pos ⟨by omega, by omega⟩, show (((k : Int) + 1) - 1).toNat = k from by omega, hs]
theorem AgP.same {q : Cp} {c : Cn} {n : Nat} {F : ByteArray} {A : Bool} (h : AgP c F A) (hI : CI q c n) {k : Nat} {s : Ag} (hs : c.nd[k]? = some s) (hd : s.dn = true) (hA : A = true) : F = s.dc := by
 obtain ⟨i, u, h1, h2, h3⟩ := h hA
 obtain ⟨L, hC⟩ := hI.inv
 rw [← h3]
 exact hC.agree h1 hs h2 hd
set_option maxHeartbeats 4000000 in
theorem councilAgrees_any {W : World} {n t ht : Int} {a b : Option Addr} {vals : List ByteArray} {ds : List Dd} {c e : Nat} (hn : (Lit.int .i64 n).wf = true) (ht' : (Lit.int .i64 t).wf = true) (hv : VsIs W a vals) (hd : DsIs W b ds) (hw : ∀ d ∈ ds, (Lit.int .i64 d.wd.rd).wf = true) :
  Calls Try.prog 3 #[wvC n t ht a vals.length c, .slice b ds.length e] W fun e w' => e = .returned (.bool true) ∧ Ext W w' := by
 obtain ⟨X, hX⟩ : ∃ X, W.alloc (.cells #[.int .i64 n, .int .i64 t, .int .i64 ht, .slice a vals.length c] 24) = X := ⟨_, rfl⟩
 have hx : Ext W X := by rw [← hX]; exact (Ext.refl W).alloc _
 have HE : Hid (Ext W X) := hx
 obtain ⟨bx, hbx⟩ : ∃ bx, W.heap.size = bx := ⟨_, rfl⟩
 have hB := blk_wd W n t ht (.slice a vals.length c)
 rw [hX, hbx] at hB
 have HB : Hid (∀ wx, Ext X wx → bx < wx.heap.size ∧ wx.cell? ⟨bx, 0, none⟩ = some (.int .i64 n) ∧ wx.cell? ⟨bx, 1, none⟩ = some (.int .i64 t) ∧ wx.cell? ⟨bx, 2, none⟩ = some (.int .i64 ht) ∧ wx.cell? ⟨bx, 3, none⟩ = some (.slice a vals.length c)) := fun wx hx => by
  have := hB.ext hx
  exact ⟨this.1, (this.2 0 (by decide)).1, (this.2 1 (by decide)).1, (this.2 2 (by decide)).1, (this.2 3 (by decide)).1⟩
 have HV : Hid (VsIs X a vals) := hv.ext hx
 have HD : Hid (DsIs X b ds) := hd.ext hx
 have HF : Hid (Calls Try.prog 7 #[wvC n t ht a vals.length c, .slice b ds.length e] X fun e w' => FwP vals ds X e w') := few_any HV.out HD.out
 have HN : Hid (∀ wx, Ext X wx → vals.length ≤ 20 → Calls Try.prog 9 #[.int .i64 n, .int .i64 t, .int .i64 ht, .slice a vals.length c] wx fun e w' => NwC wx n t ht vals e w') := fun wx hx hl => cnew_any hn ht' (HV.out.ext hx) hl
 have HW : Hid (∀ d ∈ ds, (Lit.int .i64 d.wd.rd).wf = true) := hw
 have HMV : Hid ((mkC n t ht vals).vals = vals) := mk_vals n t ht vals
 clear hB hv hd hx hn ht' hw
 obtain ⟨nv, hnv⟩ : ∃ nv, vals.length = nv := ⟨_, rfl⟩
 obtain ⟨nd, hnd⟩ : ∃ nd, ds.length = nd := ⟨_, rfl⟩
 have HNV : Hid (vals.length = nv) := hnv
 have HND : Hid (ds.length = nd) := hnd
 rw [hnv] at hX HB HF HN ⊢
 rw [hnd] at HF ⊢
 clear hnv hnd
 obtain ⟨b0, c0, c1, c2, c3⟩ := HB.out X (Ext.refl X)
 go_enter Try.func3, Try.ntmps3
 go_wp2_with fail
 refine HF.out.mono ?_
 rintro e w1 ⟨r, rfl, hr, hx1⟩
 have HX1 : Hid (Ext X w1) := hx1
 clear hx1 HF hX hbx b0 c0 c1 c2 c3
 rcases hr with rfl | ⟨rfl, hf⟩
 · go_wp2_with fail
   refine (awake_any _).mono ?_
   rintro e w2 ⟨rfl, hx2⟩
   have HX2 : Hid (Ext W w2) := HE.out.trans (HX1.out.trans hx2)
   clear hx2
   go_wp2
   go_ret
   exact ⟨rfl, HX2.out⟩
 · have HFw : Hid (FewC vals ds) := hf
   have HNw : Hid (Calls Try.prog 9 #[.int .i64 n, .int .i64 t, .int .i64 ht, .slice a nv c] w1 fun e w' => NwC w1 n t ht vals e w') := HN.out w1 HX1.out (by rw [← HNV.out]; exact hf.1)
   obtain ⟨b0, c0, c1, c2, c3⟩ := HB.out w1 HX1.out
   clear hf HN
   go_wp2_with fail
   refine HNw.out.mono ?_
   clear b0 c0 c1 c2 c3 HNw
   rintro e w2 (⟨_, rfl, hx2⟩ | ⟨hok, cb, rfl, hy2⟩)
   · have HX2 : Hid (Ext W w2) := HE.out.trans (HX1.out.trans hx2)
     clear hx2
     go_wp2_with fail
     refine (awake_any _).mono ?_
     rintro e w3 ⟨rfl, hx3⟩
     have HX3 : Hid (Ext W w3) := HX2.out.trans hx3
     clear hx3
     go_wp2
     go_ret
     exact ⟨rfl, HX3.out⟩
   · have hq := ok_new hok
     have hst := CI.start hq
     rw [HMV.out] at hst
     have HI : Hid (CI (mkC n t ht vals) (startC (mkC n t ht vals) vals.length) 0) := hst
     have HY : Hid (CY w1 cb (mkC n t ht vals) (startC (mkC n t ht vals) vals.length) w2) := hy2
     clear hok hq hst hy2
     generalize startC (mkC n t ht vals) vals.length = s0 at *
     generalize mkC n t ht vals = q at *
     go_wp2_with fail
     go_loopw [6, 7, 8] (fun u6 u7 u8 wr => ∃ (i : Nat) (F : ByteArray) (A : Bool) (s : Cn), i ≤ nd ∧ u8 = .int .i64 i ∧ u6 = .string F ∧ u7 = .bool A ∧ Hid (CY w1 cb q s wr ∧ CI q s i ∧ AgP s F A)) (fun _ _ u8 _ => nd - (intOf u8).toNat)
     case atStart => exact ⟨0, emp, false, s0, Nat.zero_le _, rfl, rfl, rfl, HY.out, HI.out, fun z => by cases z⟩
     case round =>
      obtain ⟨i, F, A, s, hi, rfl, rfl, rfl, HS⟩ := hrel
      clear HY HI
      by_cases hli : i < nd
      · have hn150 : nd ≤ 150 := by rw [← HND.out]; exact HFw.out.2.1
        obtain ⟨p1, p0, pw⟩ := lp_nums i nd hli (by omega)
        have Hli : Hid (i + 1 ≤ nd) := hli
        obtain ⟨d, hdj⟩ : ∃ d, ds[i]? = some d := ⟨ds[i]'(by rw [HND.out]; exact hli), List.getElem?_eq_getElem _⟩
        have hdm := List.mem_of_getElem? hdj
        have hxr : Ext X wr := HX1.out.trans HS.out.1.old
        obtain ⟨db, do', ea, dlt, d0, d1, d2, d3, d4, d5, d6, d7⟩ := (HD.out.ext hxr) i d hdj
        have HO : Hid (Calls Try.prog 10 #[.pointer (some ⟨cb, 0, none⟩), dv d] wr fun e w' => e = .returned (.bool (doC q s d).2) ∧ CY w1 cb q (doC q s d).1 w') := do_any HS.out.1 HS.out.2.1 (by omega) d (HFw.out.2.2.2 d hdm)
        have HCI : Hid (CI q (doC q s d).1 (i + 1) ∧ AgP (doC q s d).1 F A) := ⟨HS.out.2.1.deed (HW.out d hdm), HS.out.2.2.deed d⟩
        subst ea
        clear hi hdj hdm hxr hn150 HS
        generalize doC q s d = r at *
        go_wp2_with fail
        refine HO.out.mono ?_
        rintro e w3 ⟨rfl, hy3⟩
        have HY3 : Hid (CY w1 cb q r.1 w3 ∧ CI q r.1 (i + 1)) := ⟨hy3, HCI.out.1⟩
        have HA3 : Hid (AgP r.1 F A) := HCI.out.2
        clear hy3 HO HCI dlt d0 d1 d2 d3 d4 d5 d6 d7
        generalize r.1 = s1 at *
        go_wp2_with fail
        go_loopw [6, 7, 9] (fun u6 u7 u9 wr => ∃ (k : Nat) (F : ByteArray) (A : Bool), k ≤ nv ∧ u9 = .int .i64 ((k : Int) + 1) ∧ u6 = .string F ∧ u7 = .bool A ∧ Hid (CY w1 cb q s1 wr ∧ CI q s1 (i + 1)) ∧ Hid (AgP s1 F A)) (fun _ _ u9 _ => nv + 1 - (intOf u9).toNat)
        case atStart => exact ⟨0, F, A, Nat.zero_le _, rfl, rfl, rfl, HY3, HA3⟩
        case round =>
         obtain ⟨k, F1, A1, hk, rfl, rfl, rfl, HY4, HA4⟩ := hrel
         clear HY3 HA3
         have hv20 : nv ≤ 20 := by rw [← HNV.out]; exact HFw.out.1
         obtain ⟨b0, _, _, _, c3⟩ := HB.out wr (HX1.out.trans HY4.out.1.old)
         by_cases hlk : k < nv
         · have hkq : k < q.vals.length := by rw [HMV.out, HNV.out]; exact hlk
           obtain ⟨sk, hsk, hdk, hnk⟩ := dcd_node HY4.out.2 hkq
           have HDc : Hid (Calls Try.prog 11 #[.pointer (some ⟨cb, 0, none⟩), .int .i64 ((k : Int) + 1)] wr fun e w' => e = .returned (.tuple #[.string sk.dc, .bool sk.dn]) ∧ Ext wr w') := by
            have := decided_any HY4.out.1 HY4.out.2 ((k : Int) + 1)
            rw [hdk] at this
            exact this
           have p2 : (k : Int) + 1 ≤ (nv : Int) := by omega
           have pw2 : IntKind.i64.wrap ((k : Int) + 1 + 1) = (k : Int) + 1 + 1 := by rw [IntKind.wrap_i64]; omega
           have Hlk : Hid (k + 1 ≤ nv) := hlk
           have Hm : Hid (nv + 1 - (intOf (.int .i64 ((k : Int) + 1 + 1))).toNat < nv + 1 - (intOf (.int .i64 ((k : Int) + 1))).toNat) := by show nv + 1 - ((k : Int) + 1 + 1).toNat < nv + 1 - ((k : Int) + 1).toNat; omega
           have HNE : Hid (sk.dn = true → sk.dc.toList.isEmpty = false) := fun z => isEmpty_some (hnk z)
           have HAg : Hid (sk.dn = true → A1 = true → F1 = sk.dc) := fun z1 z2 => HA4.out.same HY4.out.2 hsk z1 z2
           have HA5 : Hid (sk.dn = true → AgP s1 sk.dc true) := fun z _ => ⟨k, sk, hsk, z, rfl⟩
           clear hk hv20 hlk hkq hsk hdk hnk
           generalize sk.dc = B at *
           generalize sk.dn = dn at *
           go_wp2_with fail
           refine HDc.out.mono ?_
           rintro e w4 ⟨rfl, hx4⟩
           have HY5 : Hid (CY w1 cb q s1 w4 ∧ CI q s1 (i + 1)) := ⟨HY4.out.1.ext hx4, HY4.out.2⟩
           clear hx4 HDc HY4 b0 c3
           cases dn with
           | false =>
            clear HNE HAg HA5
            go_wp2_with fail
            go_roundw
            case rel => exact ⟨k + 1, F1, A1, Hlk.out, by push_cast; rfl, rfl, rfl, HY5, HA4⟩
            case measure => exact Hm.out
           | true =>
            have q1 := HNE.out rfl
            have HA6 : Hid (AgP s1 B true) := HA5.out rfl
            cases A1 with
            | false =>
             clear HNE HAg HA5 HA4
             go_wp2_with fail
             go_roundw
             case rel => exact ⟨k + 1, B, true, Hlk.out, by push_cast; rfl, rfl, rfl, HY5, HA6⟩
             case measure => exact Hm.out
            | true =>
             have e := HAg.out rfl rfl
             subst e
             clear HNE HAg HA5 HA4
             go_wp2_with fail
             go_roundw
             case rel => exact ⟨k + 1, F1, true, Hlk.out, by push_cast; rfl, rfl, rfl, HY5, HA6⟩
             case measure => exact Hm.out
         · have p2 : ¬ (k : Int) + 1 ≤ (nv : Int) := by omega
           clear hk hv20 hlk
           go_wp2_with fail
           go_roundw
           case rel => exact ⟨i + 1, F1, A1, s1, Hli.out, by push_cast; rfl, rfl, rfl, HY4.out.1, HY4.out.2, HA4.out⟩
           case measure => exact lp_meas Hli.out
      · obtain rfl : i = nd := by omega
        have hnl : ¬ (i : Int) < (i : Int) := by omega
        have HX3 : Hid (Ext W wr) := HE.out.trans (HX1.out.trans HS.out.1.old)
        clear HS hi hli
        go_wp2_with fail
        refine (awake_any _).mono ?_
        rintro e w3 ⟨rfl, hx3⟩
        have HX4 : Hid (Ext W w3) := HX3.out.trans hx3
        clear hx3
        go_wp2
        go_ret
        exact ⟨rfl, HX4.out⟩
end Go.Proofs.Ytkfpmjepeikpjaa
