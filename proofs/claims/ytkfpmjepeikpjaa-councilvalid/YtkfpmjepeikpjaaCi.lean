/-
 New, called: the face is whole.
-/
import Derived.Test.YtkfpmjepeikpjaaCh
namespace Go.Proofs.Ytkfpmjepeikpjaa
open Go.RowKit Go.Maps
set_option maxRecDepth 10000
/-- What New makes. -/
def mkC (n t ht : Int) (vals : List ByteArray) : Cp := if vals.length = 0 then ⟨0, 0, ht, []⟩ else ⟨n.toNat, t.toNat, ht, vals⟩
def okNew (n t ht : Int) (vals : List ByteArray) : Prop := (vals = [] ∧ n = t ∧ n ≠ 0) ∨ (vals ≠ [] ∧ n - t = (vals.length : Int) ∧ ∀ i, i < vals.length → okPm n t ((i : Int) + 1) ht (vals[i]?.getD emp))
theorem mkC_ne {n t ht : Int} {vals : List ByteArray} (h : vals ≠ []) : mkC n t ht vals = ⟨n.toNat, t.toNat, ht, vals⟩ := if_neg (fun e => h (List.length_eq_zero_iff.1 e))
theorem mk_vals (n t ht : Int) (vals : List ByteArray) : (mkC n t ht vals).vals = vals := by
 unfold mkC
 split
 · rename_i e; exact (List.length_eq_zero_iff.1 e).symm
 · rfl
theorem pm_iff {n t ht : Int} {vals : List ByteArray} {i : Nat} (hi : i < vals.length) (h : okPm n t ((i : Int) + 1) ht (vals[i]?.getD emp)) : okP (pmC (mkC n t ht vals) i) ∧ ((pmC (mkC n t ht vals) i).n : Int) = n ∧ ((pmC (mkC n t ht vals) i).t : Int) = t ∧ (pmC (mkC n t ht vals) i).own = vals[i]?.getD emp ∧ (pmC (mkC n t ht vals) i).ht = ht ∧ n ≤ 7 := by
 have hv : vals ≠ [] := fun e => by subst e; simp at hi
 have e : mkC n t ht vals = ⟨n.toNat, t.toNat, ht, vals⟩ := mkC_ne hv
 rw [e]
 obtain ⟨q1, q2, q3, q4⟩ := h.1
 have en : ((n.toNat : Nat) : Int) = n := by omega
 have et : ((t.toNat : Nat) : Int) = t := by omega
 refine ⟨?_, en, et, rfl, rfl, q4⟩
 show okPm ((n.toNat : Nat) : Int) ((t.toNat : Nat) : Int) ((i : Int) + 1) ht (vals[i]?.getD emp)
 rw [en, et]
 exact h
theorem ok_new {n t ht : Int} {vals : List ByteArray} (h : okNew n t ht vals) : okC (mkC n t ht vals) := by
 rcases h with ⟨rfl, _, _⟩ | ⟨hv, h1, h2⟩
 · have e : mkC n t ht [] = ⟨0, 0, ht, []⟩ := if_pos rfl
   rw [e]
   exact ⟨rfl, fun i hi => absurd hi (Nat.not_lt_zero i)⟩
 · refine ⟨?_, fun i hi => ?_⟩
   · have h0 := pm_iff (i := 0) (List.length_pos_iff.2 hv) (h2 0 (List.length_pos_iff.2 hv))
     rw [mk_vals]
     have a : ((mkC n t ht vals).n : Int) = n := h0.2.1
     have b : ((mkC n t ht vals).t : Int) = t := h0.2.2.1
     omega
   · rw [mk_vals] at hi
     exact (pm_iff hi (h2 i hi)).1
/-- The slice a holds the values. -/
def VsIs (W : World) (a : Option Addr) (vals : List ByteArray) : Prop := ∀ j B, vals[j]? = some B → ∃ b o, a = some ⟨b, o, none⟩ ∧ b < W.heap.size ∧ W.cell? ⟨b, o + j, none⟩ = some (.string B)
theorem VsIs.ext {W W' : World} {a : Option Addr} {vals : List ByteArray} (h : VsIs W a vals) (hx : Ext W W') : VsIs W' a vals := fun j B e => by
 obtain ⟨b, o, q1, q2, q3⟩ := h j B e
 exact ⟨b, o, q1, Nat.lt_of_lt_of_le q2 hx.size, later hx q3⟩
def NwC (W : World) (n t ht : Int) (vals : List ByteArray) (e : Ending) (w' : World) : Prop := (¬ okNew n t ht vals ∧ e = .returned (.pointer none) ∧ Ext W w') ∨ (okNew n t ht vals ∧ ∃ cb, e = .returned (.pointer (some ⟨cb, 0, none⟩)) ∧ CY W cb (mkC n t ht vals) (startC (mkC n t ht vals) vals.length) w')
theorem start_lv (q : Cp) : lvC (startC q q.vals.length).nd = fun j => decide (j < q.vals.length) := funext fun j => by
 unfold lvC
 by_cases h : j < q.vals.length
 · rw [start_nd q _ j h, if_pos h, decide_eq_true h, start_eq]; rfl
 · rw [List.getElem?_eq_none (by rw [start_len]; omega), decide_eq_false h]; rfl
theorem start_dc (q : Cp) : dcC (startC q q.vals.length).nd = fun _ => emp := funext fun k => by
 unfold dcC
 by_cases e : k = 0
 · rw [if_pos e]
 · rw [if_neg e]
   by_cases h : k - 1 < q.vals.length
   · rw [start_nd q _ _ h, if_pos h, start_eq]; rfl
   · rw [List.getElem?_eq_none (by rw [start_len]; omega)]; rfl
theorem co_new (W : World) (q : Cp) (P : Nat → Nat) (X : World) (hX : X = (W.alloc (.map #[] 0)).alloc (.cells #[.int .i64 (q.vals.length : Int), .map (some W.heap.size), .string ⟨#[]⟩, .string ⟨#[]⟩, .string ⟨#[]⟩, .string ⟨#[]⟩, .string ⟨#[]⟩, .string ⟨#[]⟩, .string ⟨#[]⟩, .string ⟨#[]⟩, .slice none 0 0] 48)) :
  CX W (W.heap.size + 1) q (startC q 0).nd (startC q 0).wy 0 (fun j => decide (j < 0)) (fun _ => emp) P (fun _ => False) W X := by
 subst hX
 have e1 : Ext W (W.alloc (.map #[] 0)) := (Ext.refl W).alloc _
 have e2 : Ext (W.alloc (.map #[] 0)) ((W.alloc (.map #[] 0)).alloc (.cells #[.int .i64 (q.vals.length : Int), .map (some W.heap.size), .string ⟨#[]⟩, .string ⟨#[]⟩, .string ⟨#[]⟩, .string ⟨#[]⟩, .string ⟨#[]⟩, .string ⟨#[]⟩, .string ⟨#[]⟩, .string ⟨#[]⟩, .slice none 0 0] 48)) := (Ext.refl _).alloc _
 have hs : (W.alloc (.map #[] 0)).heap.size = W.heap.size + 1 := by simp
 refine ⟨W.heap.size, .slice none 0 0, fun k => if k = W.heap.size + 1 then 1 else if k = W.heap.size then 2 else 0, ⟨e1.trans e2, ?_, ?_, ?_, Nat.zero_le _, Nat.le_succ _, Nat.le_refl _, if_pos rfl, ?_, (fun k hk => by cases hk), fun i s a => ?_, fun i k a => ?_, fun i a => ?_, ?_⟩, (e1.trans e2).size, fun k hk => hk.elim⟩
 · have := Blk.new (W.alloc (.map #[] 0)) (n := 11) (g := cgC q.vals.length W.heap.size (.slice none 0 0) (fun _ => emp)) #[.int .i64 (q.vals.length : Int), .map (some W.heap.size), .string ⟨#[]⟩, .string ⟨#[]⟩, .string ⟨#[]⟩, .string ⟨#[]⟩, .string ⟨#[]⟩, .string ⟨#[]⟩, .string ⟨#[]⟩, .string ⟨#[]⟩, .slice none 0 0] 48 fun j hj => by
    match j, hj with
    | 0, _ => rfl
    | 1, _ => rfl
    | 2, _ => rfl
    | 3, _ => rfl
    | 4, _ => rfl
    | 5, _ => rfl
    | 6, _ => rfl
    | 7, _ => rfl
    | 8, _ => rfl
    | 9, _ => rfl
    | 10, _ => rfl
   rw [hs] at this
   exact this
 · refine ((im_new W).keep (Below.block e2 _ (by rw [hs]; omega))).congr fun k => ?_
   unfold mpC
   rw [if_neg (fun z => by simp at z)]
 · exact World.ownsRow_nil _ _ _ _
 · show (if W.heap.size = W.heap.size + 1 then 1 else if W.heap.size = W.heap.size then 2 else 0) = 2
   rw [if_neg (by omega), if_pos rfl]
 · simp at a
 · simp at a
 · simp at a
 · exact start_len q 0
set_option maxHeartbeats 4000000 in
theorem cnew_any {W : World} {n t ht : Int} {vals : List ByteArray} {a : Option Addr} {c : Nat} (hn : (Lit.int .i64 n).wf = true) (ht' : (Lit.int .i64 t).wf = true) (hv : VsIs W a vals) (hl : vals.length ≤ 20) : Calls Try.prog 9 #[.int .i64 n, .int .i64 t, .int .i64 ht, .slice a vals.length c] W fun e w' => NwC W n t ht vals e w' := by
 have rn : -9223372036854775808 ≤ n ∧ n ≤ 9223372036854775807 := by simpa [Lit.wf, IntKind.min, IntKind.max, IntKind.signed, IntKind.bits] using hn
 have rt : -9223372036854775808 ≤ t ∧ t ≤ 9223372036854775807 := by simpa [Lit.wf, IntKind.min, IntKind.max, IntKind.signed, IntKind.bits] using ht'
 obtain ⟨z, hz⟩ : ∃ z, IntKind.i64.wrap (n - t) = z := ⟨_, rfl⟩
 have hz2 := hz
 rw [IntKind.wrap_i64] at hz2
 by_cases h0 : n = 0
 · have HF : Hid (NwC W n t ht vals (.returned (.pointer none)) W) := .inl ⟨fun h => by
    rcases h with ⟨_, _, h⟩ | ⟨hv, _, h⟩
    · exact h h0
    · obtain ⟨q1, q2, q3, q4⟩ := (h 0 (List.length_pos_iff.2 hv)).1
      omega, rfl, Ext.refl W⟩
   subst h0
   clear hz hz2 rn rt hv hl hn ht'
   go_enter Try.func9, Try.ntmps9
   go_wp2
   go_ret
   exact HF.out
 · have n0 : (n == 0) = false := by simpa using h0
   by_cases h1 : z = (vals.length : Int)
   · subst h1
     have HV : Hid (VsIs W a vals) := hv
     have HL : Hid (vals.length ≤ 20) := hl
     have HZ : Hid (vals = [] → n = t) := fun e => by
      subst e
      simp only [List.length_nil] at hz2
      omega
     have HZ2 : Hid (n ≤ 7 → 0 ≤ t → t ≤ 2 → 1 ≤ n → n - t = (vals.length : Int)) := fun _ _ _ _ => by omega
     have HN0 : Hid (n ≠ 0) := h0
     have z1 : ((vals.length : Int) != (vals.length : Int)) = false := by simp
     have mv := mk_vals n t ht vals
     have hco := co_new W (mkC n t ht vals) (fun _ => 0) _ rfl
     rw [mv] at hco
     have HX0 : Hid (CX W (W.heap.size + 1) (mkC n t ht vals) (startC (mkC n t ht vals) 0).nd (startC (mkC n t ht vals) 0).wy 0 (fun j => decide (j < 0)) (fun _ => emp) (fun _ => 0) (fun _ => False) W _) := hco
     have HMV : Hid ((mkC n t ht vals).vals = vals) := mv
     clear hz2 rn rt hv hl hn ht' h0 hco mv
     obtain ⟨ln, hln⟩ : ∃ ln, vals.length = ln := ⟨_, rfl⟩
     have HLN : Hid (vals.length = ln) := hln
     rw [hln] at HX0 HL HZ2 hz z1 ⊢
     clear hln
     have hmm := @run_makeMap Try.prog
     go_enter Try.func9, Try.ntmps9
     go_wp2_with fail
     clear hmm
     generalize HXeq : (W.alloc (.map #[] 0)).alloc (.cells #[.int .i64 (ln : Int), .map (some W.heap.size), .string ⟨#[]⟩, .string ⟨#[]⟩, .string ⟨#[]⟩, .string ⟨#[]⟩, .string ⟨#[]⟩, .string ⟨#[]⟩, .string ⟨#[]⟩, .string ⟨#[]⟩, .slice none 0 0] 48) = X at *
     clear HXeq z1 hz
     obtain ⟨cb, hcb⟩ : ∃ cb, W.heap.size + 1 = cb := ⟨_, rfl⟩
     rw [hcb] at HX0 ⊢
     clear hcb
     go_loopw [30] (fun u30 wr => ∃ i : Nat, i ≤ ln ∧ u30 = .int .i64 i ∧ Hid (∀ j, j < i → okPm n t ((j : Int) + 1) ht (vals[j]?.getD emp)) ∧ ∃ P, Hid (CX W cb (mkC n t ht vals) (startC (mkC n t ht vals) i).nd (startC (mkC n t ht vals) i).wy i (fun j => decide (j < i)) (fun _ => emp) P (fun _ => False) W wr)) (fun u30 _ => ln - (intOf u30).toNat)
     case atStart => exact ⟨0, Nat.zero_le _, rfl, fun j hj => absurd hj (Nat.not_lt_zero j), _, HX0⟩
     case round =>
      obtain ⟨i, hi, rfl, HO, P, HX⟩ := hrel
      clear HX0
      by_cases hli : i < ln
      · obtain ⟨p1, p0, pw⟩ := lp_nums i ln hli (by have := HL.out; omega)
        have Hli : Hid (i < ln ∧ i + 1 ≤ ln) := ⟨hli, hli⟩
        obtain ⟨B, hB⟩ : ∃ B, vals[i]? = some B := ⟨vals[i]'(by rw [HLN.out]; exact hli), List.getElem?_eq_getElem _⟩
        have HB : Hid (vals[i]?.getD emp = B) := by show _ = _; rw [hB]; rfl
        obtain ⟨vb, vo, ea, vlt, vc⟩ := (HV.out.ext HX.out.old) i B hB
        subst ea
        have hvl : i < vals.length := by rw [HLN.out]; exact hli
        have HVL : Hid (i < vals.length) := hvl
        clear hi hB
        by_cases hok : okPm n t ((i : Int) + 1) ht B
        · have hok' : okPm n t ((i : Int) + 1) ht (vals[i]?.getD emp) := by rw [HB.out]; exact hok
          obtain ⟨g1, g2, g3, g4, g5, g6⟩ := pm_iff hvl hok'
          have HG : Hid (okP (pmC (mkC n t ht vals) i)) := g1
          have hme : (pmC (mkC n t ht vals) i).me = (i : Int) + 1 := rfl
          have HNA : Hid (Calls Try.prog 17 #[.int .i64 n, .int .i64 t, .int .i64 ((i : Int) + 1), .int .i64 ht, .string B] wr fun e w' => NewAP (pmC (mkC n t ht vals) i) wr e w') := by
            have := anew_good (pmC (mkC n t ht vals) i) g1 wr
            rw [g2, g3, g4, g5, HB.out, hme] at this
            exact this
          have H7 : Hid ((mkC n t ht vals).vals.length ≤ 7 ∧ i < (mkC n t ht vals).vals.length ∧ i < 7) := by
            have a1 := hok.1
            have a2 := HZ2.out a1.2.2.2 a1.1 a1.2.1 (by have := a1.2.2.1; omega)
            have a3 := a1.2.2.2
            have a4 := a1.1
            refine ⟨?_, ?_, by omega⟩
            · rw [HMV.out, HLN.out]; omega
            · rw [HMV.out]; exact hvl
          have HO2 : Hid (∀ j, j < i + 1 → okPm n t ((j : Int) + 1) ht (vals[j]?.getD emp)) := fun j hj => by
            by_cases e : j = i
            · subst e; exact hok'
            · exact HO.out j (by omega)
          clear g1 g2 g3 g4 g5 g6 hme hok hok' hvl HO
          generalize hq : mkC n t ht vals = q at *
          go_wp2_with fail
          refine HNA.out.mono ?_
          rintro e w1 ⟨b, vp, G, rfl, hA1, hF1, hx1⟩
          obtain ⟨mb, M, lab, hc, hz1, hz2⟩ := HX.out
          clear hz1 hz2
          have hc1 := hc.ext hx1
          have hb := hc1.blk.1
          have c1 : w1.cell? ⟨cb, 1, none⟩ = some (.map (some mb)) := (hc1.blk.2 1 (by decide)).1
          have hkw : (Lit.int .i64 ((i : Int) + 1)).wf = true := WalkArith.wf_i64 (by have := H7.out.2.2; omega)
          obtain ⟨w2, hrun, hIm, hgr⟩ := hc1.map.put (by have := H7.out.2.2; simp only [maxLen]; omega) hkw (.pointer (some ⟨b, 0, none⟩))
          have hmbl := hc.map.lt
          have hGmb : ∀ k, G k → k ≠ mb := fun k hk e => by subst e; have := hF1 k hk; omega
          have hA2 : AB w2 b (pmC q i) newA vp .nilFunc G := hA1.keep hgr.size fun k hk => hgr.block k (hA1.lt k hk) (fun e => by injection e with e; exact hGmb k hk e)
          have hnl : (startC q i).nd.length = q.vals.length := start_len q i
          obtain ⟨f1, hf1⟩ := rl_ex lab G i wr.heap.size
          have hco := hc.part (i := i) (by rw [hnl]; exact H7.out.2.1) (s' := newA) (G' := G) (vp' := vp) (lv' := fun j => decide (j < i + 1)) (P' := fun j => if j = i then b else P j) (mn' := i + 1) (W' := w2)
            (ext_grown (hc.old.trans hx1) hgr (fun k hk => by injection hk with hk; rw [← hk]; exact hc.mbn)) (Nat.le_trans hx1.size hgr.size)
            (fun k hk _ hm => (hgr.block k (Nat.lt_of_lt_of_le hk hx1.size) (fun e => by injection e with e; exact hm e)).trans (Below.block hx1 k hk))
            (hIm.congr fun k => by
              unfold mpC
              by_cases e : k = (i : Int) + 1
              · have e1 : k.toNat - 1 = i := by omega
                rw [if_pos e, if_pos ⟨by omega, by rw [e1]; exact decide_eq_true (Nat.lt_succ_self i)⟩, e1]
                dsimp only
                rw [if_pos rfl]
              · rw [if_neg e]
                by_cases e1 : 1 ≤ k
                · have e2 : ¬ k.toNat - 1 = i := by omega
                  have e3 : decide (k.toNat - 1 < i + 1) = decide (k.toNat - 1 < i) := by
                    rw [decide_eq_decide]; omega
                  simp only [e3, if_neg e2]
                · rw [if_neg (fun z => e1 z.1), if_neg (fun z => e1 z.1)])
            (fun j hj => if_neg hj) (decide_eq_true (Nat.lt_succ_self i)) (fun j hj => by rw [decide_eq_decide]; omega)
            (by rw [if_pos rfl]; exact hA2) (fun k hk => .inr (hF1 k hk)) hf1
          have HF : Hid (∀ k, G k → f1 k = 4 + i) := hf1.inn
          have HCO : Hid (CO W w2 cb mb q ((startC q i).nd.set i newA) (startC q i).wy (i + 1) (fun j => decide (j < i + 1)) (fun _ => emp) M (fun j => if j = i then b else P j) f1) := hco
          have HST : Hid (Calls Try.prog 19 #[.pointer (some ⟨b, 0, none⟩)] w2 fun e w' => TkP b (pmC q i) (startA (pmC q i) newA).1 (startA (pmC q i) newA).2 G w2 e w') := start_any HG.out (inv_new _) hA2
          clear hA1 hF1 hx1 hc hc1 hIm hmbl hGmb hA2 hnl hco hf1 HNA HX vlt vc
          generalize hs1 : (startA (pmC q i) newA).1 = s1 at *
          generalize hout : (startA (pmC q i) newA).2 = out at *
          have Hout : Hid (out.length ≤ 1 ∧ s1 = (startA (pmC q i) newA).1 ∧ out = (startA (pmC q i) newA).2) := ⟨by rw [← hout, start_eq]; dsimp only; split <;> simp, hs1.symm, hout.symm⟩
          clear hs1 hout
          go_wp2_with fail
          refine HST.out.mono ?_
          rintro e w3 ⟨u, vp3, G3, rfl, hA3, hS3, hC3, hO3, hu3⟩
          obtain ⟨ua, uc, eu⟩ := own_len hO3
          subst eu
          have lm := HCO.out.lm
          have hlt : decide (i < i + 1) = true := decide_eq_true (Nat.lt_succ_self i)
          have hold : Ext W w3 := hC3.ext HCO.out.old (fun k z => HCO.out.prn i k hlt (HF.out k z))
          obtain ⟨f2, hf2⟩ := rl_ex f1 G3 i _
          have hco3 := HCO.out.part (i := i) (by rw [List.length_set, start_len]; exact H7.out.2.1) (s' := s1) (lv' := fun j => decide (j < i + 1)) (P' := fun j => if j = i then b else P j) hold hC3.size (fun k hk z _ => hC3.block k hk (fun y => z ⟨HF.out _ y, hlt⟩)) (HCO.out.map.keep (hC3.block mb HCO.out.map.lt (fun y => by have := HF.out _ y; omega))) (fun _ _ => rfl) hlt (fun _ _ => rfl) (by rw [if_pos rfl]; exact hA3) (fun k g => by
            rcases hS3 k g with z | z
            · exact .inl ⟨HF.out _ z, hlt⟩
            · exact .inr z) hf2
          rw [List.set_set] at hco3
          have HX3 : Hid (CX W cb q ((startC q i).nd.set i s1) (startC q i).wy (i + 1) (fun j => decide (j < i + 1)) (fun _ => emp) (fun j => if j = i then b else P j) (fun k => (Value.slice ua out.length uc).ownBlock = some k) w3 w3) := ⟨mb, M, _, hco3, Nat.le_refl _, fun k hk => ⟨(hO3.lt k hk).2, hf2.new k (hu3 k hk) (hO3.lt k hk).1, rfl⟩⟩
          have HS : Hid (Calls Try.prog 18 #[.pointer (some ⟨cb, 0, none⟩), .slice ua out.length uc] w3 fun e w' => e = .returned (.tuple #[]) ∧ CX W cb q ((startC q i).nd.set i s1) (sayC q.vals.length (startC q i).wy out) (i + 1) (fun j => decide (j < i + 1)) (fun _ => emp) (fun j => if j = i then b else P j) (fun k => (Value.slice ua out.length uc).ownBlock = some k) w3 w') :=
            spread_any HX3.out (own_ws hO3) (fun b o e => by rw [e]; rfl) (by have := Hout.out.1; omega) H7.out.1
          have HW3 : Hid (W.heap.size ≤ w3.heap.size) := hold.size
          clear hA3 hS3 hC3 hO3 hu3 lm hold hco3 hf2 HF HCO HST hrun c1 hb hgr HX3 hkw hlt
          go_wp2_with fail
          refine HS.out.mono ?_
          rintro e w4 ⟨rfl, hx4⟩
          have HX4 : Hid (CX W cb q (startC q (i + 1)).nd (startC q (i + 1)).wy (i + 1) (fun j => decide (j < i + 1)) (fun _ => emp) (fun j => if j = i then b else P j) (fun _ => False) W w4) := by
            have := hx4.back (F := fun _ => False) (W0 := W) HW3.out (fun k hk => hk.elim)
            rw [Hout.out.2.1, Hout.out.2.2] at this
            exact this
          clear hx4 HS
          subst hq
          go_wp2_with fail
          go_roundw
          case rel => exact ⟨i + 1, Hli.out.2, by push_cast; rfl, HO2, _, HX4⟩
          case measure => exact lp_meas Hli.out.1
        · have HNA : Hid (Calls Try.prog 17 #[.int .i64 n, .int .i64 t, .int .i64 ((i : Int) + 1), .int .i64 ht, .string B] wr fun e w' => e = .returned (.pointer none) ∧ Ext wr w') := anew_bad n t ((i : Int) + 1) ht B hok wr
          have HNo : Hid (¬ okNew n t ht vals) := fun h => by
            rcases h with ⟨e, _, _⟩ | ⟨_, _, h⟩
            · subst e; exact absurd hvl (Nat.not_lt_zero i)
            · have := h i hvl
              rw [HB.out] at this
              exact hok this
          clear hok
          go_wp2_with fail
          refine HNA.out.mono ?_
          rintro e w1 ⟨rfl, hx1⟩
          have HF : Hid (NwC W n t ht vals (.returned (.pointer none)) w1) := .inl ⟨HNo.out, rfl, HX.out.old.trans hx1⟩
          clear hx1 HNo HX HNA vlt vc
          go_wp2
          go_ret
          exact HF.out
      · obtain rfl : i = ln := by omega
        have hnl : ¬ (i : Int) < (i : Int) := by omega
        have HF : Hid (NwC W n t ht vals (.returned (.pointer (some ⟨cb, 0, none⟩))) wr) := by
          have hok : okNew n t ht vals := by
            by_cases e : vals = []
            · exact .inl ⟨e, HZ.out e, HN0.out⟩
            · have h0 := HO.out 0 (by rw [← HLN.out]; exact List.length_pos_iff.2 e)
              have a1 := h0.1
              have a2 := HZ2.out a1.2.2.2 a1.1 a1.2.1 (by have := a1.2.2.1; have := a1.1; omega)
              exact .inr ⟨e, by rw [HLN.out]; exact a2, fun j hj => HO.out j (by rw [← HLN.out]; exact hj)⟩
          refine .inr ⟨hok, cb, rfl, i, P, ?_⟩
          have e1 := start_lv (mkC n t ht vals)
          have e2 := start_dc (mkC n t ht vals)
          rw [HMV.out, HLN.out] at e1 e2
          rw [HLN.out, e1, e2]
          exact HX.out
        clear HX HO
        go_wp2
        go_ret
        exact HF.out
   · have HF : Hid (NwC W n t ht vals (.returned (.pointer none)) W) := .inl ⟨fun h => by
      rcases h with ⟨rfl, h, _⟩ | ⟨hv, h, _⟩
      · refine h1 ?_; rw [← hz2]; simp only [List.length_nil]; omega
      · refine h1 ?_; rw [← hz2]; omega, rfl, Ext.refl W⟩
     have z1 : (z != (vals.length : Int)) = true := by simpa using h1
     clear hz2 rn rt hv hl hn ht' h0 h1
     generalize vals.length = ln at *
     go_enter Try.func9, Try.ntmps9
     go_wp2
     go_ret
     exact HF.out
end Go.Proofs.Ytkfpmjepeikpjaa
