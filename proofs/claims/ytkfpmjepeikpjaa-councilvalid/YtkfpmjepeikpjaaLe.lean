/-
 CouncilValid.
-/
import Derived.Test.YtkfpmjepeikpjaaLd
namespace Go.Proofs.Ytkfpmjepeikpjaa
open Go.RowKit Go.Maps
set_option maxRecDepth 10000
/-- What is held, said and decided is one of the values. -/
def VlP (vals : List ByteArray) (c : Cn) : Prop := (∀ (i : Nat) (u : Ag), c.nd[i]? = some u → ValA vals u []) ∧ ∀ x ∈ c.wy, x.2.kd = 1 → x.2.vl ∈ vals
theorem own_in {q : Cp} {i : Nat} (hi : i < q.vals.length) : (pmC q i).own ∈ q.vals := by
 show q.vals[i]?.getD emp ∈ q.vals
 rw [List.getElem?_eq_getElem hi]
 exact List.getElem_mem hi
theorem VlP.take {q : Cp} {c : Cn} {n : Nat} (h : VlP q.vals c) (hI : CI q c n) (i : Nat) {m : Vt} (hm : m.kd = 1 → m.vl ∈ q.vals) : VlP q.vals (takeC q c i m) := by
 unfold takeC
 cases e : c.nd[i]? with
 | none => exact h
 | some s =>
  obtain ⟨⟨L, hN⟩, _⟩ := hI.nod e
  have hil := (List.getElem?_eq_some_iff.1 e).1
  have hv := val_take (own_in (by rw [← hI.len]; exact hil)) hN.inv (h.1 i s e) hm
  refine ⟨fun j u hu => ?_, fun x hx => ?_⟩
  · replace hu : (c.nd.set i (takeA (pmC q i) s m).1)[j]? = some u := hu
    rw [List.getElem?_set] at hu
    split at hu
    · rename_i hh
      subst hh
      injection hu with hu
      subst hu
      exact ⟨hv.1, hv.2.1, hv.2.2.1, fun m hm => by cases hm⟩
    · exact h.1 j u hu
  · rcases say_mem hx with z | ⟨_, z⟩
    · exact h.2 x z
    · exact hv.2.2.2 x.2 z
theorem VlP.deed {q : Cp} {c : Cn} {n : Nat} (h : VlP q.vals c) (hI : CI q c n) {d : Dd} (hd : d.kd ≠ 3) : VlP q.vals (doC q c d).1 := by
 unfold doC
 split
 · unfold delC
   cases e : c.wy[atC c d.at']? with
   | none => exact h
   | some x => exact VlP.take (c := ⟨c.nd, c.wy.eraseIdx (atC c d.at')⟩) ⟨h.1, fun y hy => h.2 y (List.mem_of_mem_eraseIdx hy)⟩ (hI.gone _) _ (h.2 x (List.mem_of_getElem? e))
 · split
   · unfold losC
     cases e : c.wy[atC c d.at']? with
     | none => exact h
     | some x => exact ⟨h.1, fun y hy => h.2 y (List.mem_of_mem_eraseIdx hy)⟩
   · split
     · unfold timC
       split
       · exact h.take hI _ (fun z => absurd z (show ¬ (4 : Int) = 1 by decide))
       · exact h
     · exact h
theorem val_start {p : Pm} {vals : List ByteArray} (ho : p.own ∈ vals) : ValA vals (startA p newA).1 (startA p newA).2 := by
 have h0 : ValA vals newA [] := ⟨(fun m hm => by cases hm), (fun h => absurd h (by decide)), (fun h => by cases h), (fun m hm => by cases hm)⟩
 have := val_begin (p := p) ho h0 0
 rw [List.nil_append] at this
 exact this
theorem VlP.start {q : Cp} (hq : okC q) : VlP q.vals (startC q q.vals.length) := by
 refine ⟨fun i u hu => ?_, fun x hx => ?_⟩
 · have hi : i < q.vals.length := by have := (List.getElem?_eq_some_iff.1 hu).1; rw [start_len] at this; exact this
   rw [start_nd q _ i hi, if_pos hi] at hu
   injection hu with hu
   subst hu
   have hv := val_start (own_in hi)
   exact ⟨hv.1, hv.2.1, hv.2.2.1, fun m hm => by cases hm⟩
 · obtain ⟨_, k, hk, _, hm⟩ := (start_wy q hq _ (Nat.le_refl _)).2 x hx
   exact (val_start (own_in hk)).2.2.2 x.2 hm
/-- A council, or none. -/
def VS (w1 : World) (p : Value) (vals : List ByteArray) (i : Nat) (wr : World) : Prop := (p = .pointer none ∧ Ext w1 wr) ∨ ∃ cb q s, p = .pointer (some ⟨cb, 0, none⟩) ∧ q.vals = vals ∧ CY w1 cb q s wr ∧ CI q s i ∧ VlP vals s
theorem VS.old {w1 : World} {p : Value} {vals : List ByteArray} {i : Nat} {wr : World} (h : VS w1 p vals i wr) : Ext w1 wr := by
 rcases h with ⟨_, h⟩ | ⟨_, _, _, _, _, h, _⟩
 · exact h
 · exact h.old
theorem VS.ext {w1 : World} {p : Value} {vals : List ByteArray} {i : Nat} {wr w' : World} (h : VS w1 p vals i wr) (hx : Ext wr w') : VS w1 p vals i w' := by
 rcases h with ⟨h1, h⟩ | ⟨cb, q, s, h1, h2, h3, h4⟩
 · exact .inl ⟨h1, h.trans hx⟩
 · exact .inr ⟨cb, q, s, h1, h2, h3.ext hx, h4⟩
theorem VS.more {w1 : World} {p : Value} {vals : List ByteArray} {i : Nat} {wr : World} (h : VS w1 p vals i wr) : VS w1 p vals (i + 1) wr := by
 rcases h with h | ⟨cb, q, s, h1, h2, h3, h4, h5⟩
 · exact .inl h
 · exact .inr ⟨cb, q, s, h1, h2, h3, h4.more (Nat.le_succ i), h5⟩
def VdP (w1 : World) (p : Value) (vals : List ByteArray) (i : Nat) (e : Ending) (w' : World) : Prop := ∃ r, e = .returned (.bool r) ∧ VS w1 p vals i w'
theorem VS.deed {w1 : World} {p : Value} {vals : List ByteArray} {i : Nat} {wr : World} (h : VS w1 p vals i wr) (hi : i ≤ 900) {d : Dd} (hd : d.kd ≠ 3) (hv : d.wd.vl.size ≤ 5000) (hw : (Lit.int .i64 d.wd.rd).wf = true) : Calls Try.prog 10 #[p, dv d] wr fun e w' => VdP w1 p vals (i + 1) e w' := by
 rcases h with ⟨rfl, h⟩ | ⟨cb, q, s, rfl, rfl, h3, h4, h5⟩
 · refine (do_nil d wr).mono ?_
   rintro e w' ⟨rfl, hx⟩
   exact ⟨false, rfl, .inl ⟨rfl, h.trans hx⟩⟩
 · refine (do_any h3 h4 hi d hv).mono ?_
   rintro e w' ⟨rfl, hy⟩
   exact ⟨_, rfl, .inr ⟨cb, q, _, rfl, rfl, hy, h4.deed hw, h5.deed h4 hd⟩⟩
def VcP (vals : List ByteArray) (wr : World) (e : Ending) (w' : World) : Prop := ∃ B dn, e = .returned (.tuple #[.string B, .bool dn]) ∧ Ext wr w' ∧ (dn = true → B ∈ vals)
theorem VS.decided {w1 : World} {p : Value} {vals : List ByteArray} {i : Nat} {wr : World} (h : VS w1 p vals i wr) (k : Int) : Calls Try.prog 11 #[p, .int .i64 k] wr fun e w' => VcP vals wr e w' := by
 rcases h with ⟨rfl, h⟩ | ⟨cb, q, s, rfl, rfl, h3, h4, h5⟩
 · refine (decided_nil k wr).mono ?_
   rintro e w' ⟨rfl, hx⟩
   exact ⟨emp, false, rfl, hx, fun z => by cases z⟩
 · refine (decided_any h3 h4 k).mono ?_
   rintro e w' ⟨rfl, hx⟩
   refine ⟨_, _, rfl, hx, fun z => ?_⟩
   unfold dcdC at z ⊢
   split at z
   · rename_i u hu
     have : s.nd[(k - 1).toNat]? = some u := by
      split at hu
      · exact hu
      · cases hu
     exact (h5.1 _ u this).2.2.1 z
   · cases z
set_option maxHeartbeats 4000000 in
theorem councilValid_any {W : World} {n t ht : Int} {a b : Option Addr} {vals : List ByteArray} {ds : List Dd} {c e : Nat} (hn : (Lit.int .i64 n).wf = true) (ht' : (Lit.int .i64 t).wf = true) (hv : VsIs W a vals) (hd : DsIs W b ds) (hw : ∀ d ∈ ds, (Lit.int .i64 d.wd.rd).wf = true) :
  Calls Try.prog 4 #[wvC n t ht a vals.length c, .slice b ds.length e] W fun e w' => e = .returned (.bool true) ∧ Ext W w' := by
 obtain ⟨X, hX⟩ : ∃ X, W.alloc (.cells #[.int .i64 n, .int .i64 t, .int .i64 ht, .slice a vals.length c] 24) = X := ⟨_, rfl⟩
 have hx : Ext W X := by rw [← hX]; exact (Ext.refl W).alloc _
 have HE : Hid (Ext W X) := hx
 obtain ⟨bx, hbx⟩ : ∃ bx, W.heap.size = bx := ⟨_, rfl⟩
 have hB := blk_wd W n t ht (.slice a vals.length c)
 rw [hX, hbx] at hB
 have HB : Hid (∀ wx, Ext X wx → bx < wx.heap.size ∧ wx.cell? ⟨bx, 0, none⟩ = some (.int .i64 n) ∧ wx.cell? ⟨bx, 1, none⟩ = some (.int .i64 t) ∧ wx.cell? ⟨bx, 2, none⟩ = some (.int .i64 ht) ∧ wx.cell? ⟨bx, 3, none⟩ = some (.slice a vals.length c)) := fun wx hx => by
  have := hB.ext hx
  exact ⟨this.1, (this.2 0 (by decide)).1, (this.2 1 (by decide)).1, (this.2 2 (by decide)).1, (this.2 3 (by decide)).1⟩
 have HV : Hid (VsIs X a vals) := hv.ext hx
 have HD : Hid (DsIs X b ds) := hd.ext hx
 have HF : Hid (Calls Try.prog 7 #[wvC n t ht a vals.length c, .slice b ds.length e] X fun e w' => FwP vals ds X e w') := few_any HV.out HD.out
 have HN : Hid (∀ wx, Ext X wx → vals.length ≤ 20 → Calls Try.prog 9 #[.int .i64 n, .int .i64 t, .int .i64 ht, .slice a vals.length c] wx fun e w' => NwC wx n t ht vals e w') := fun wx hx hl => cnew_any hn ht' (HV.out.ext hx) hl
 have HW : Hid (∀ d ∈ ds, (Lit.int .i64 d.wd.rd).wf = true) := hw
 have HMV : Hid ((mkC n t ht vals).vals = vals) := mk_vals n t ht vals
 clear hB hv hd hx hn ht' hw
 obtain ⟨nv, hnv⟩ : ∃ nv, vals.length = nv := ⟨_, rfl⟩
 obtain ⟨nd, hnd⟩ : ∃ nd, ds.length = nd := ⟨_, rfl⟩
 have HNV : Hid (vals.length = nv) := hnv
 have HND : Hid (ds.length = nd) := hnd
 rw [hnv] at hX HB HF HN ⊢
 rw [hnd] at HF ⊢
 clear hnv hnd
 obtain ⟨b0, c0, c1, c2, c3⟩ := HB.out X (Ext.refl X)
 go_enter Try.func4, Try.ntmps4
 go_wp2_with fail
 refine HF.out.mono ?_
 rintro e w1 ⟨r, rfl, hr, hx1⟩
 have HX1 : Hid (Ext X w1) := hx1
 clear hx1 HF hX hbx b0 c0 c1 c2 c3
 rcases hr with rfl | ⟨rfl, hf⟩
 · go_wp2_with fail
   refine (awake_any _).mono ?_
   rintro e w2 ⟨rfl, hx2⟩
   have HX2 : Hid (Ext W w2) := HE.out.trans (HX1.out.trans hx2)
   clear hx2
   go_wp2
   go_ret
   exact ⟨rfl, HX2.out⟩
 · have HFw : Hid (FewC vals ds) := hf
   have HNw : Hid (Calls Try.prog 9 #[.int .i64 n, .int .i64 t, .int .i64 ht, .slice a nv c] w1 fun e w' => NwC w1 n t ht vals e w') := HN.out w1 HX1.out (by rw [← HNV.out]; exact hf.1)
   obtain ⟨b0, c0, c1, c2, c3⟩ := HB.out w1 HX1.out
   clear hf HN
   have HNx : Hid (Calls Try.prog 9 #[.int .i64 n, .int .i64 t, .int .i64 ht, .slice a nv c] w1 fun e w' => ∃ p, e = .returned p ∧ (p = .pointer none ∨ ∃ b, p = .pointer (some ⟨b, 0, none⟩)) ∧ VS w1 p vals 0 w') := by
    refine HNw.out.mono ?_
    rintro e w2 (⟨_, rfl, hx2⟩ | ⟨hok, cb, rfl, hy2⟩)
    · exact ⟨_, rfl, .inl rfl, .inl ⟨rfl, hx2⟩⟩
    · have hq := ok_new hok
      have h1 := CI.start hq
      have h2 := VlP.start hq
      rw [HMV.out] at h1 h2
      exact ⟨_, rfl, .inr ⟨cb, rfl⟩, .inr ⟨cb, _, _, rfl, HMV.out, hy2, h1, h2⟩⟩
   clear HNw
   go_wp2_with fail
   refine HNx.out.mono ?_
   clear b0 c0 c1 c2 c3 HNx
   rintro e w2 ⟨p, rfl, hp, hs2⟩
   have HS2 : Hid (VS w1 p vals 0 w2) := hs2
   clear hs2 hp
   go_wp2_with fail
   go_loopw [6] (fun u6 wr => ∃ i : Nat, i ≤ nd ∧ u6 = .int .i64 i ∧ Hid (VS w1 p vals i wr)) (fun u6 _ => nd - (intOf u6).toNat)
   case atStart => exact ⟨0, Nat.zero_le _, rfl, HS2⟩
   case round =>
    obtain ⟨i, hi, rfl, HS⟩ := hrel
    clear HS2
    have hn150 : nd ≤ 150 := by rw [← HND.out]; exact HFw.out.2.1
    by_cases hli : i < nd
    · obtain ⟨p1, p0, pw⟩ := lp_nums i nd hli (by omega)
      have Hli : Hid (i + 1 ≤ nd) := hli
      obtain ⟨d, hdj⟩ : ∃ d, ds[i]? = some d := ⟨ds[i]'(by rw [HND.out]; exact hli), List.getElem?_eq_getElem _⟩
      have hdm := List.mem_of_getElem? hdj
      have hxr : Ext X wr := HX1.out.trans HS.out.old
      obtain ⟨db, do', ea, dlt, d0, d1, d2, d3, d4, d5, d6, d7⟩ := (HD.out.ext hxr) i d hdj
      subst ea
      by_cases hk3 : d.kd = 3
      · have e3 : (d.kd != 3) = false := by simpa using hk3
        have HS3 : Hid (VS w1 p vals (i + 1) wr) := HS.out.more
        clear hi hdj hdm hxr hn150 HS hk3 d1 d2 d3 d4 d5 d6 d7
        go_wp2_with fail
        go_roundw
        case rel => exact ⟨i + 1, Hli.out, by push_cast; rfl, HS3⟩
        case measure => exact lp_meas Hli.out
      · have e3 : (d.kd != 3) = true := by simpa using hk3
        have HO : Hid (Calls Try.prog 10 #[p, dv d] wr fun e w' => VdP w1 p vals (i + 1) e w') := HS.out.deed (by omega) hk3 (HFw.out.2.2.2 d hdm) (HW.out d hdm)
        clear hi hdj hdm hxr hn150 hk3 HS
        go_wp2_with fail
        refine HO.out.mono ?_
        rintro e w3 ⟨r, rfl, hs3⟩
        have HS3 : Hid (VS w1 p vals (i + 1) w3) := hs3
        clear hs3 HO dlt d0 d1 d2 d3 d4 d5 d6 d7
        go_wp2_with fail
        go_roundw
        case rel => exact ⟨i + 1, Hli.out, by push_cast; rfl, HS3⟩
        case measure => exact lp_meas Hli.out
    · obtain rfl : i = nd := by omega
      have hnl : ¬ (i : Int) < (i : Int) := by omega
      clear hi hli hn150
      go_wp2_with fail
      clear hnl
      go_loopw [7] (fun u7 wr => ∃ k : Nat, k ≤ nv ∧ u7 = .int .i64 ((k : Int) + 1) ∧ Hid (VS w1 p vals i wr)) (fun u7 _ => nv + 1 - (intOf u7).toNat)
      case atStart => exact ⟨0, Nat.zero_le _, rfl, HS⟩
      case round =>
       obtain ⟨k, hk, rfl, HK⟩ := hrel
       clear HS
       have hv20 : nv ≤ 20 := by rw [← HNV.out]; exact HFw.out.1
       obtain ⟨b0, _, _, _, c3⟩ := HB.out wr (HX1.out.trans HK.out.old)
       by_cases hlk : k < nv
       · have HDc : Hid (Calls Try.prog 11 #[p, .int .i64 ((k : Int) + 1)] wr fun e w' => VcP vals wr e w') := HK.out.decided _
         have p2 : (k : Int) + 1 ≤ (nv : Int) := by omega
         have pw2 : IntKind.i64.wrap ((k : Int) + 1 + 1) = (k : Int) + 1 + 1 := by rw [IntKind.wrap_i64]; omega
         have Hlk : Hid (k + 1 ≤ nv) := hlk
         have Hm : Hid (nv + 1 - (intOf (.int .i64 ((k : Int) + 1 + 1))).toNat < nv + 1 - (intOf (.int .i64 ((k : Int) + 1))).toNat) := by show nv + 1 - ((k : Int) + 1 + 1).toNat < nv + 1 - ((k : Int) + 1).toNat; omega
         have Hv20 : Hid (nv ≤ 20) := hv20
         clear hk hv20 hlk
         go_wp2_with fail
         refine HDc.out.mono ?_
         rintro e w4 ⟨B, dn, rfl, hx4, hdn⟩
         have HK4 : Hid (VS w1 p vals i w4) := HK.out.ext hx4
         have Hdn : Hid (dn = true → B ∈ vals) := hdn
         clear hx4 hdn HDc HK b0 c3
         go_wp2_with fail
         go_loopw [10, 11] (fun u10 u11 wr => ∃ (j : Nat) (I : Bool), j ≤ nv ∧ u11 = .int .i64 j ∧ u10 = .bool I ∧ Hid (I = true ↔ ∃ l, l < j ∧ vals[l]? = some B) ∧ Hid (VS w1 p vals i wr)) (fun _ u11 _ => nv - (intOf u11).toNat)
         case atStart => exact ⟨0, false, Nat.zero_le _, rfl, rfl, ⟨(fun z => by cases z), fun ⟨l, h, _⟩ => absurd h (Nat.not_lt_zero l)⟩, HK4⟩
         case round =>
          obtain ⟨j, I, hj, rfl, rfl, HI, HK⟩ := hrel
          clear HK4
          have hxr : Ext X wr := HX1.out.trans HK.out.old
          obtain ⟨b0, _, _, _, c3⟩ := HB.out wr hxr
          by_cases hlj : j < nv
          · obtain ⟨p1, p0, pw⟩ := lp_nums j nv hlj (by have := Hv20.out; omega)
            have Hlj : Hid (j + 1 ≤ nv) := hlj
            obtain ⟨V, hV⟩ : ∃ V, vals[j]? = some V := ⟨vals[j]'(by rw [HNV.out]; exact hlj), List.getElem?_eq_getElem _⟩
            obtain ⟨vb, vo, ea, vlt, vc⟩ := (HV.out.ext hxr) j V hV
            have HVj : Hid (vals[j]? = some V) := hV
            subst ea
            clear hj hV hxr hlj
            cases I with
            | true =>
             have HI2 : Hid (true = true ↔ ∃ l, l < j + 1 ∧ vals[l]? = some B) := ⟨fun _ => by
              obtain ⟨l, h1, h2⟩ := HI.out.1 rfl
              exact ⟨l, by omega, h2⟩, fun _ => rfl⟩
             clear HI
             go_wp2_with fail
             go_roundw
             case rel => exact ⟨j + 1, true, Hlj.out, by push_cast; rfl, rfl, HI2, HK⟩
             case measure => exact lp_meas Hlj.out
            | false =>
             by_cases hVB : V = B
             · have q1 := toList_same hVB
               have HI2 : Hid (true = true ↔ ∃ l, l < j + 1 ∧ vals[l]? = some B) := ⟨fun _ => ⟨j, Nat.lt_succ_self j, by rw [HVj.out, hVB]⟩, fun _ => rfl⟩
               clear HI hVB
               go_wp2_with fail
               go_roundw
               case rel => exact ⟨j + 1, true, Hlj.out, by push_cast; rfl, rfl, HI2, HK⟩
               case measure => exact lp_meas Hlj.out
             · have q1 := toList_ne hVB
               have HI2 : Hid (false = true ↔ ∃ l, l < j + 1 ∧ vals[l]? = some B) := ⟨(fun z => by cases z), fun ⟨l, h1, h2⟩ => HI.out.2 ⟨l, by
                by_cases e : l = j
                · subst e; rw [HVj.out] at h2; injection h2 with h2; exact absurd h2 hVB
                · omega, h2⟩⟩
               clear HI hVB
               go_wp2_with fail
               go_roundw
               case rel => exact ⟨j + 1, false, Hlj.out, by push_cast; rfl, rfl, HI2, HK⟩
               case measure => exact lp_meas Hlj.out
          · obtain rfl : j = nv := by omega
            have hnl : ¬ (j : Int) < (j : Int) := by omega
            have HIB : Hid (dn = true → I = true) := fun z => HI.out.2 (by
             obtain ⟨l, hl⟩ := List.mem_iff_getElem?.1 (Hdn.out z)
             exact ⟨l, by have := (List.getElem?_eq_some_iff.1 hl).1; rw [HNV.out] at this; exact this, hl⟩)
            clear hj hlj HI hxr
            cases dn with
            | false =>
             clear HIB Hdn
             go_wp2_with fail
             go_roundw
             case rel => exact ⟨k + 1, Hlk.out, by push_cast; rfl, HK⟩
             case measure => exact Hm.out
            | true =>
             have eI := HIB.out rfl
             subst eI
             clear HIB Hdn
             go_wp2_with fail
             go_roundw
             case rel => exact ⟨k + 1, Hlk.out, by push_cast; rfl, HK⟩
             case measure => exact Hm.out
       · have p2 : ¬ (k : Int) + 1 ≤ (nv : Int) := by omega
         have HX3 : Hid (Ext W wr) := HE.out.trans (HX1.out.trans HK.out.old)
         clear hk hv20 hlk HK
         go_wp2_with fail
         refine (awake_any _).mono ?_
         rintro e w3 ⟨rfl, hx3⟩
         have HX4 : Hid (Ext W w3) := HX3.out.trans hx3
         clear hx3
         go_wp2
         go_ret
         exact ⟨rfl, HX4.out⟩
end Go.Proofs.Ytkfpmjepeikpjaa
