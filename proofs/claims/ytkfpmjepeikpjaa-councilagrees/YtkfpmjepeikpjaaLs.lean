/-
  The laws' own: do, Few.
  Few, called.
-/
import Derived.Test.YtkfpmjepeikpjaaCi
import Derived.Test.YtkfpmjepeikpjaaKMathB
namespace Go.Proofs.Ytkfpmjepeikpjaa
open Go.RowKit Go.Maps
set_option maxRecDepth 10000
/-- A deed. -/
structure Dd where
 kd : Int
 nd : Int
 at' : Int
 wd : Vt
abbrev dv (d : Dd) : Value := .agg #[.int .i64 d.kd, .int .i64 d.nd, .int .i64 d.at', .int .i64 d.wd.kd, .int .i64 d.wd.fr, .int .i64 d.wd.rd, .int .i64 d.wd.va, .string d.wd.vl]
def doC (q : Cp) (c : Cn) (d : Dd) : Cn × Bool := if d.kd = 1 then delC q c d.at' else if d.kd = 2 then losC c d.at' else if d.kd = 3 then forC c d.nd d.wd else if d.kd = 4 then timC q c d.nd d.at' else (c, false)
section
variable {w W : World} {cb : Nat} {q : Cp} {c : Cn} {n : Nat}
theorem CI.deed (h : CI q c n) {d : Dd} (hw : (Lit.int .i64 d.wd.rd).wf = true) : CI q (doC q c d).1 (n + 1) := by
 unfold doC
 split
 · exact h.del _
 · split
   · exact (h.los _).more (Nat.le_succ n)
   · split
     · exact (h.forg _ hw).more (Nat.le_succ n)
     · split
       · exact h.tim _ _
       · exact h.more (Nat.le_succ n)
theorem blk_dd (W : World) (d : Dd) : Blk (W.alloc (.cells #[.int .i64 d.kd, .int .i64 d.nd, .int .i64 d.at', .int .i64 d.wd.kd, .int .i64 d.wd.fr, .int .i64 d.wd.rd, .int .i64 d.wd.va, .string d.wd.vl] 34)) W.heap.size 8 (fun j => (#[.int .i64 d.kd, .int .i64 d.nd, .int .i64 d.at', .int .i64 d.wd.kd, .int .i64 d.wd.fr, .int .i64 d.wd.rd, .int .i64 d.wd.va, .string d.wd.vl] : Array Value).getD j undef) := Blk.new W _ 34 fun j hj => by
 match j, hj with
 | 0, _ => rfl
 | 1, _ => rfl
 | 2, _ => rfl
 | 3, _ => rfl
 | 4, _ => rfl
 | 5, _ => rfl
 | 6, _ => rfl
 | 7, _ => rfl
theorem do_nil (d : Dd) (W : World) : Calls Try.prog 10 #[.pointer none, dv d] W fun e w' => e = .returned (.bool false) ∧ Ext W w' := by
 obtain ⟨X, hX⟩ : ∃ X, W.alloc (.cells #[.int .i64 d.kd, .int .i64 d.nd, .int .i64 d.at', .int .i64 d.wd.kd, .int .i64 d.wd.fr, .int .i64 d.wd.rd, .int .i64 d.wd.va, .string d.wd.vl] 34) = X := ⟨_, rfl⟩
 have HE : Hid (Ext W X) := by rw [← hX]; exact (Ext.refl W).alloc _
 obtain ⟨bx, hbx⟩ : ∃ bx, W.heap.size = bx := ⟨_, rfl⟩
 have hB := blk_dd W d
 rw [hX, hbx] at hB
 have b0 : X.cell? ⟨bx, 0, none⟩ = some (.int .i64 d.kd) := (hB.2 0 (by decide)).1
 have b1 : X.cell? ⟨bx, 1, none⟩ = some (.int .i64 d.nd) := (hB.2 1 (by decide)).1
 have b2 : X.cell? ⟨bx, 2, none⟩ = some (.int .i64 d.at') := (hB.2 2 (by decide)).1
 have b3 : X.cell? ⟨bx, 3, none⟩ = some (.int .i64 d.wd.kd) := (hB.2 3 (by decide)).1
 have b4 : X.cell? ⟨bx, 4, none⟩ = some (.int .i64 d.wd.fr) := (hB.2 4 (by decide)).1
 have b5 : X.cell? ⟨bx, 5, none⟩ = some (.int .i64 d.wd.rd) := (hB.2 5 (by decide)).1
 have b6 : X.cell? ⟨bx, 6, none⟩ = some (.int .i64 d.wd.va) := (hB.2 6 (by decide)).1
 have b7 : X.cell? ⟨bx, 7, none⟩ = some (.string d.wd.vl) := (hB.2 7 (by decide)).1
 have bl := hB.1
 have H1 : Hid (Calls Try.prog 13 #[.pointer none, .int .i64 d.at'] X fun e w' => e = .returned (.bool false) ∧ Ext X w') := deliver_nil _ X
 have H2 : Hid (Calls Try.prog 15 #[.pointer none, .int .i64 d.at'] X fun e w' => e = .returned (.bool false) ∧ Ext X w') := lose_nil _ X
 have H3 : Hid (Calls Try.prog 16 #[.pointer none, .int .i64 d.nd, wv d.wd] X fun e w' => e = .returned (.bool false) ∧ Ext X w') := forge_nil _ _ X
 have H4 : Hid (Calls Try.prog 20 #[.pointer none, .int .i64 d.nd, .int .i64 d.at'] X fun e w' => e = .returned (.bool false) ∧ Ext X w') := timeout_nil _ _ X
 clear hB
 by_cases k1 : d.kd = 1
 · have e1 : (d.kd == 1) = true := by simpa using k1
   clear k1 H2 H3 H4
   go_enter Try.func10, Try.ntmps10
   go_wp2_with fail
   refine H1.out.mono ?_
   rintro e w1 ⟨rfl, hx⟩
   have HX : Hid (Ext W w1) := HE.out.trans hx
   clear hx
   go_wp2
   go_ret
   exact ⟨rfl, HX.out⟩
 · have e1 : (d.kd == 1) = false := by simpa using k1
   by_cases k2 : d.kd = 2
   · have e2 : (d.kd == 2) = true := by simpa using k2
     clear k1 k2 H1 H3 H4
     go_enter Try.func10, Try.ntmps10
     go_wp2_with fail
     refine H2.out.mono ?_
     rintro e w1 ⟨rfl, hx⟩
     have HX : Hid (Ext W w1) := HE.out.trans hx
     clear hx
     go_wp2
     go_ret
     exact ⟨rfl, HX.out⟩
   · have e2 : (d.kd == 2) = false := by simpa using k2
     by_cases k3 : d.kd = 3
     · have e3 : (d.kd == 3) = true := by simpa using k3
       clear k1 k2 k3 H1 H2 H4
       go_enter Try.func10, Try.ntmps10
       go_wp2_with fail
       refine H3.out.mono ?_
       rintro e w1 ⟨rfl, hx⟩
       have HX : Hid (Ext W w1) := HE.out.trans hx
       clear hx
       go_wp2
       go_ret
       exact ⟨rfl, HX.out⟩
     · have e3 : (d.kd == 3) = false := by simpa using k3
       by_cases k4 : d.kd = 4
       · have e4 : (d.kd == 4) = true := by simpa using k4
         clear k1 k2 k3 k4 H1 H2 H3
         go_enter Try.func10, Try.ntmps10
         go_wp2_with fail
         refine H4.out.mono ?_
         rintro e w1 ⟨rfl, hx⟩
         have HX : Hid (Ext W w1) := HE.out.trans hx
         clear hx
         go_wp2
         go_ret
         exact ⟨rfl, HX.out⟩
       · have e4 : (d.kd == 4) = false := by simpa using k4
         clear k1 k2 k3 k4 H1 H2 H3 H4
         go_enter Try.func10, Try.ntmps10
         go_wp2
         go_ret
         exact ⟨rfl, HE.out⟩
theorem do_any (h : CY w cb q c W) (hI : CI q c n) (hn : n ≤ 900) (d : Dd) (hv : d.wd.vl.size ≤ 5000) : Calls Try.prog 10 #[.pointer (some ⟨cb, 0, none⟩), dv d] W fun e w' => e = .returned (.bool (doC q c d).2) ∧ CY w cb q (doC q c d).1 w' := by
 obtain ⟨X, hX⟩ : ∃ X, W.alloc (.cells #[.int .i64 d.kd, .int .i64 d.nd, .int .i64 d.at', .int .i64 d.wd.kd, .int .i64 d.wd.fr, .int .i64 d.wd.rd, .int .i64 d.wd.va, .string d.wd.vl] 34) = X := ⟨_, rfl⟩
 have hx : Ext W X := by rw [← hX]; exact (Ext.refl W).alloc _
 have HY : Hid (CY w cb q c X) := h.ext hx
 obtain ⟨bx, hbx⟩ : ∃ bx, W.heap.size = bx := ⟨_, rfl⟩
 have hB := blk_dd W d
 rw [hX, hbx] at hB
 have b0 : X.cell? ⟨bx, 0, none⟩ = some (.int .i64 d.kd) := (hB.2 0 (by decide)).1
 have b1 : X.cell? ⟨bx, 1, none⟩ = some (.int .i64 d.nd) := (hB.2 1 (by decide)).1
 have b2 : X.cell? ⟨bx, 2, none⟩ = some (.int .i64 d.at') := (hB.2 2 (by decide)).1
 have b3 : X.cell? ⟨bx, 3, none⟩ = some (.int .i64 d.wd.kd) := (hB.2 3 (by decide)).1
 have b4 : X.cell? ⟨bx, 4, none⟩ = some (.int .i64 d.wd.fr) := (hB.2 4 (by decide)).1
 have b5 : X.cell? ⟨bx, 5, none⟩ = some (.int .i64 d.wd.rd) := (hB.2 5 (by decide)).1
 have b6 : X.cell? ⟨bx, 6, none⟩ = some (.int .i64 d.wd.va) := (hB.2 6 (by decide)).1
 have b7 : X.cell? ⟨bx, 7, none⟩ = some (.string d.wd.vl) := (hB.2 7 (by decide)).1
 have bl := hB.1
 have H1 : Hid (Calls Try.prog 13 #[.pointer (some ⟨cb, 0, none⟩), .int .i64 d.at'] X fun e w' => e = .returned (.bool (delC q c d.at').2) ∧ CY w cb q (delC q c d.at').1 w') := deliver_any HY.out hI hn _
 have H2 : Hid (Calls Try.prog 15 #[.pointer (some ⟨cb, 0, none⟩), .int .i64 d.at'] X fun e w' => e = .returned (.bool (losC c d.at').2) ∧ CY w cb q (losC c d.at').1 w') := lose_any HY.out _
 have H3 : Hid (Calls Try.prog 16 #[.pointer (some ⟨cb, 0, none⟩), .int .i64 d.nd, wv d.wd] X fun e w' => e = .returned (.bool (forC c d.nd d.wd).2) ∧ CY w cb q (forC c d.nd d.wd).1 w') := forge_any HY.out hI.len _ _ (by omega)
 have H4 : Hid (Calls Try.prog 20 #[.pointer (some ⟨cb, 0, none⟩), .int .i64 d.nd, .int .i64 d.at'] X fun e w' => e = .returned (.bool (timC q c d.nd d.at').2) ∧ CY w cb q (timC q c d.nd d.at').1 w') := timeout_any HY.out hI hn _ _
 clear hB h hI hn hv hx
 obtain ⟨r, hr⟩ : ∃ r, doC q c d = r := ⟨_, rfl⟩
 rw [hr]
 unfold doC at hr
 by_cases k1 : d.kd = 1
 · have e1 : (d.kd == 1) = true := by simpa using k1
   rw [if_pos k1] at hr
   rw [hr] at H1
   clear k1 hr H2 H3 H4
   go_enter Try.func10, Try.ntmps10
   go_wp2_with fail
   refine H1.out.mono ?_
   rintro e w1 ⟨rfl, hx⟩
   have HX : Hid (CY w cb q r.1 w1) := hx
   clear hx
   go_wp2
   go_ret
   exact ⟨rfl, HX.out⟩
 · have e1 : (d.kd == 1) = false := by simpa using k1
   rw [if_neg k1] at hr
   by_cases k2 : d.kd = 2
   · have e2 : (d.kd == 2) = true := by simpa using k2
     rw [if_pos k2] at hr
     rw [hr] at H2
     clear k1 k2 hr H1 H3 H4
     go_enter Try.func10, Try.ntmps10
     go_wp2_with fail
     refine H2.out.mono ?_
     rintro e w1 ⟨rfl, hx⟩
     have HX : Hid (CY w cb q r.1 w1) := hx
     clear hx
     go_wp2
     go_ret
     exact ⟨rfl, HX.out⟩
   · have e2 : (d.kd == 2) = false := by simpa using k2
     rw [if_neg k2] at hr
     by_cases k3 : d.kd = 3
     · have e3 : (d.kd == 3) = true := by simpa using k3
       rw [if_pos k3] at hr
       rw [hr] at H3
       clear k1 k2 k3 hr H1 H2 H4
       go_enter Try.func10, Try.ntmps10
       go_wp2_with fail
       refine H3.out.mono ?_
       rintro e w1 ⟨rfl, hx⟩
       have HX : Hid (CY w cb q r.1 w1) := hx
       clear hx
       go_wp2
       go_ret
       exact ⟨rfl, HX.out⟩
     · have e3 : (d.kd == 3) = false := by simpa using k3
       rw [if_neg k3] at hr
       by_cases k4 : d.kd = 4
       · have e4 : (d.kd == 4) = true := by simpa using k4
         rw [if_pos k4] at hr
         rw [hr] at H4
         clear k1 k2 k3 k4 hr H1 H2 H3
         go_enter Try.func10, Try.ntmps10
         go_wp2_with fail
         refine H4.out.mono ?_
         rintro e w1 ⟨rfl, hx⟩
         have HX : Hid (CY w cb q r.1 w1) := hx
         clear hx
         go_wp2
         go_ret
         exact ⟨rfl, HX.out⟩
       · have e4 : (d.kd == 4) = false := by simpa using k4
         rw [if_neg k4] at hr
         subst hr
         clear k1 k2 k3 k4 H1 H2 H3 H4
         go_enter Try.func10, Try.ntmps10
         go_wp2
         go_ret
         exact ⟨rfl, HY.out⟩
end
end Go.Proofs.Ytkfpmjepeikpjaa
namespace Go.Proofs.Ytkfpmjepeikpjaa
open Go.RowKit Go.Maps
set_option maxRecDepth 10000
/-- The slice holds the deeds. -/
def DsIs (W : World) (a : Option Addr) (ds : List Dd) : Prop := ∀ j d, ds[j]? = some d → ∃ b o, a = some ⟨b, o, none⟩ ∧ b < W.heap.size ∧ W.cell? ⟨b, o + j * 8, none⟩ = some (.int .i64 d.kd) ∧ W.cell? ⟨b, o + j * 8 + 1, none⟩ = some (.int .i64 d.nd) ∧ W.cell? ⟨b, o + j * 8 + 2, none⟩ = some (.int .i64 d.at') ∧ W.cell? ⟨b, o + j * 8 + 3, none⟩ = some (.int .i64 d.wd.kd) ∧ W.cell? ⟨b, o + j * 8 + 4, none⟩ = some (.int .i64 d.wd.fr) ∧ W.cell? ⟨b, o + j * 8 + 5, none⟩ = some (.int .i64 d.wd.rd) ∧ W.cell? ⟨b, o + j * 8 + 6, none⟩ = some (.int .i64 d.wd.va) ∧ W.cell? ⟨b, o + j * 8 + 7, none⟩ = some (.string d.wd.vl)
theorem DsIs.ext {W W' : World} {a : Option Addr} {ds : List Dd} (h : DsIs W a ds) (hx : Ext W W') : DsIs W' a ds := fun j d e => by
 obtain ⟨b, o, q1, q2, c0, c1, c2, c3, c4, c5, c6, c7⟩ := h j d e
 exact ⟨b, o, q1, Nat.lt_of_lt_of_le q2 hx.size, later hx c0, later hx c1, later hx c2, later hx c3, later hx c4, later hx c5, later hx c6, later hx c7⟩
def FewC (vals : List ByteArray) (ds : List Dd) : Prop := vals.length ≤ 20 ∧ ds.length ≤ 150 ∧ (∀ B ∈ vals, B.size ≤ 5000) ∧ ∀ d ∈ ds, d.wd.vl.size ≤ 5000
def FwP (vals : List ByteArray) (ds : List Dd) (W : World) (e : Ending) (w' : World) : Prop := ∃ r : Int, e = .returned (.int .i64 r) ∧ (r = 0 ∨ (r = 1 ∧ FewC vals ds)) ∧ Ext W w'
abbrev wvC (n t ht : Int) (a : Option Addr) (nv c : Nat) : Value := .agg #[.int .i64 n, .int .i64 t, .int .i64 ht, .slice a nv c]
theorem blk_wd (W : World) (n t ht : Int) (u : Value) : Blk (W.alloc (.cells #[.int .i64 n, .int .i64 t, .int .i64 ht, u] 24)) W.heap.size 4 (fun j => (#[.int .i64 n, .int .i64 t, .int .i64 ht, u] : Array Value).getD j undef) := Blk.new W _ 24 fun j hj => by
 match j, hj with
 | 0, _ => rfl
 | 1, _ => rfl
 | 2, _ => rfl
 | 3, _ => rfl
set_option maxHeartbeats 2000000 in
theorem few_any {W : World} {n t ht : Int} {a b : Option Addr} {vals : List ByteArray} {ds : List Dd} {c e : Nat} (hv : VsIs W a vals) (hd : DsIs W b ds) : Calls Try.prog 7 #[wvC n t ht a vals.length c, .slice b ds.length e] W fun e w' => FwP vals ds W e w' := by
 obtain ⟨X, hX⟩ : ∃ X, W.alloc (.cells #[.int .i64 n, .int .i64 t, .int .i64 ht, .slice a vals.length c] 24) = X := ⟨_, rfl⟩
 have hx : Ext W X := by rw [← hX]; exact (Ext.refl W).alloc _
 have HE : Hid (Ext W X) := hx
 obtain ⟨bx, hbx⟩ : ∃ bx, W.heap.size = bx := ⟨_, rfl⟩
 have hB := blk_wd W n t ht (.slice a vals.length c)
 rw [hX, hbx] at hB
 have b3 : X.cell? ⟨bx, 3, none⟩ = some (.slice a vals.length c) := (hB.2 3 (by decide)).1
 have bl := hB.1
 have HV : Hid (VsIs X a vals) := hv.ext hx
 have HD : Hid (DsIs X b ds) := hd.ext hx
 clear hB hv hd hx
 obtain ⟨nv, hnv⟩ : ∃ nv, vals.length = nv := ⟨_, rfl⟩
 obtain ⟨nd, hnd⟩ : ∃ nd, ds.length = nd := ⟨_, rfl⟩
 have HNV : Hid (vals.length = nv) := hnv
 have HND : Hid (ds.length = nd) := hnd
 rw [hnv] at b3 hX ⊢
 rw [hnd]
 clear hnv hnd
 by_cases hd1 : (150 : Int) < (nd : Int)
 · have HF : Hid (FwP vals ds W (.returned (.int .i64 0)) X) := ⟨0, rfl, .inl rfl, HE.out⟩
   have d1 : decide ((150 : Int) < (nd : Int)) = true := decide_eq_true hd1
   clear hd1
   go_enter Try.func7, Try.ntmps7
   go_wp2
   go_ret
   exact HF.out
 · have d1 : decide ((150 : Int) < (nd : Int)) = false := decide_eq_false hd1
   have HD1 : Hid (nd ≤ 150) := by show _ ≤ _; omega
   clear hd1
   by_cases hv1 : (20 : Int) < (nv : Int)
   · have HF : Hid (FwP vals ds W (.returned (.int .i64 0)) X) := ⟨0, rfl, .inl rfl, HE.out⟩
     have d2 : decide ((20 : Int) < (nv : Int)) = true := decide_eq_true hv1
     clear hv1
     go_enter Try.func7, Try.ntmps7
     go_wp2
     go_ret
     exact HF.out
   · have d2 : decide ((20 : Int) < (nv : Int)) = false := decide_eq_false hv1
     have HV1 : Hid (nv ≤ 20) := by show _ ≤ _; omega
     clear hv1
     go_enter Try.func7, Try.ntmps7
     go_wp2_with fail
     clear hX hbx d1 d2
     go_loopw [5] (fun u5 wr => ∃ i : Nat, i ≤ nv ∧ u5 = .int .i64 i ∧ wr = X ∧ Hid (∀ j B, j < i → vals[j]? = some B → B.size ≤ 5000)) (fun u5 _ => nv - (intOf u5).toNat)
     case atStart => exact ⟨0, Nat.zero_le _, rfl, rfl, fun j B hj => absurd hj (Nat.not_lt_zero j)⟩
     case round =>
      obtain ⟨i, hi, rfl, rfl, HS⟩ := hrel
      by_cases hli : i < nv
      · obtain ⟨p1, p0, pw⟩ := lp_nums i nv hli (by have := HV1.out; omega)
        have Hli : Hid (i < nv) := hli
        obtain ⟨B, hB⟩ : ∃ B, vals[i]? = some B := ⟨vals[i]'(by rw [HNV.out]; exact hli), List.getElem?_eq_getElem _⟩
        obtain ⟨vb, vo, ea, vlt, vc⟩ := HV.out i B hB
        have HB : Hid (vals[i]? = some B) := hB
        subst ea
        clear hi hB
        by_cases hs : (5000 : Int) < (B.size : Int)
        · have d3 : decide ((5000 : Int) < (B.size : Int)) = true := decide_eq_true hs
          have HF : Hid (FwP vals ds W (.returned (.int .i64 0)) wr) := ⟨0, rfl, .inl rfl, HE.out⟩
          clear hs
          go_wp2
          go_ret
          exact HF.out
        · have d3 : decide ((5000 : Int) < (B.size : Int)) = false := decide_eq_false hs
          have HS2 : Hid (∀ j B, j < i + 1 → vals[j]? = some B → B.size ≤ 5000) := fun j B' hj e => by
           by_cases q : j = i
           · subst q; rw [HB.out] at e; injection e with e; subst e; omega
           · exact HS.out j B' (by omega) e
          clear hs HS
          go_wp2_with fail
          go_roundw
          case rel => exact ⟨i + 1, Hli.out, by push_cast; rfl, by trivial, HS2⟩
          case measure => exact lp_meas Hli.out
      · obtain rfl : i = nv := by omega
        have hnl : ¬ (i : Int) < (i : Int) := by omega
        clear hi hli
        go_wp2_with fail
        clear hnl
        rename World => wr
        go_loopw [6] (fun u6 w2 => ∃ j : Nat, j ≤ nd ∧ u6 = .int .i64 j ∧ w2 = wr ∧ Hid (∀ k d, k < j → ds[k]? = some d → d.wd.vl.size ≤ 5000)) (fun u6 _ => nd - (intOf u6).toNat)
        case atStart => exact ⟨0, Nat.zero_le _, rfl, rfl, fun j B hj => absurd hj (Nat.not_lt_zero j)⟩
        case round =>
         obtain ⟨j, hj, rfl, e2, HT⟩ := hrel
         subst e2
         by_cases hlj : j < nd
         · obtain ⟨p1, p0, pw⟩ := lp_nums j nd hlj (by have := HD1.out; omega)
           have Hlj : Hid (j < nd) := hlj
           obtain ⟨d, hdj⟩ : ∃ d, ds[j]? = some d := ⟨ds[j]'(by rw [HND.out]; exact hlj), List.getElem?_eq_getElem _⟩
           obtain ⟨db, do', ea, dlt, d0, _, _, _, _, _, _, d7⟩ := HD.out j d hdj
           have HB : Hid (ds[j]? = some d) := hdj
           subst ea
           clear hj hdj d0
           by_cases hs : (5000 : Int) < (d.wd.vl.size : Int)
           · have d3 : decide ((5000 : Int) < (d.wd.vl.size : Int)) = true := decide_eq_true hs
             have HF : Hid (FwP vals ds W (.returned (.int .i64 0)) wr) := ⟨0, rfl, .inl rfl, HE.out⟩
             clear hs
             go_wp2
             go_ret
             exact HF.out
           · have d3 : decide ((5000 : Int) < (d.wd.vl.size : Int)) = false := decide_eq_false hs
             have HT2 : Hid (∀ k d, k < j + 1 → ds[k]? = some d → d.wd.vl.size ≤ 5000) := fun k d' hk e => by
              by_cases q : k = j
              · subst q; rw [HB.out] at e; injection e with e; subst e; omega
              · exact HT.out k d' (by omega) e
             clear hs HT
             go_wp2_with fail
             go_roundw
             case rel => exact ⟨j + 1, Hlj.out, by push_cast; rfl, by trivial, HT2⟩
             case measure => exact lp_meas Hlj.out
         · obtain rfl : j = nd := by omega
           have hnl : ¬ (j : Int) < (j : Int) := by omega
           have HF : Hid (FwP vals ds W (.returned (.int .i64 1)) wr) := ⟨1, rfl, .inr ⟨rfl, by rw [HNV.out]; exact HV1.out, by rw [HND.out]; exact HD1.out, fun B hB => by
            obtain ⟨k, e⟩ := List.mem_iff_getElem?.1 hB
            exact HS.out k B (by rw [← HNV.out]; exact (List.getElem?_eq_some_iff.1 e).1) e, fun d hd => by
            obtain ⟨k, e⟩ := List.mem_iff_getElem?.1 hd
            exact HT.out k d (by rw [← HND.out]; exact (List.getElem?_eq_some_iff.1 e).1) e⟩, HE.out⟩
           clear HS HT hj hlj
           go_wp2
           go_ret
           exact HF.out
end Go.Proofs.Ytkfpmjepeikpjaa
