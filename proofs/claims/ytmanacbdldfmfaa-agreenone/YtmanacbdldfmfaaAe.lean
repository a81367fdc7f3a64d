/-
 decide (rule 1), called.
-/
import Derived.Test.YtmanacbdldfmfaaAd
namespace Go.Proofs.Ytmanacbdldfmfaa
open Go.RowKit
set_option maxRecDepth 10000
/-- The cells of the proposals. -/
def pcs (ps : List Vt) : Nat → Nat → List Value
 | _, 0 => []
 | i, n + 1 => .string (pvl ps i) :: .int .i64 (pva ps i) :: pcs ps (i + 1) n
theorem pcs_len (ps : List Vt) : ∀ n i, (pcs ps i n).length = n * 2
 | 0, _ => rfl
 | n + 1, i => by simp [pcs, pcs_len ps n]; omega
theorem pcs_get (ps : List Vt) : ∀ (n i k : Nat), k < n → (pcs ps i n)[k * 2]? = some (.string (pvl ps (i + k))) ∧ (pcs ps i n)[k * 2 + 1]? = some (.int .i64 (pva ps (i + k)))
 | 0, _, k, h => absurd h (Nat.not_lt_zero _)
 | n + 1, i, 0, _ => ⟨rfl, rfl⟩
 | n + 1, i, k + 1, h => by
  have := pcs_get ps n (i + 1) k (by omega)
  rw [show (k + 1) * 2 = k * 2 + 1 + 1 from by omega, show i + (k + 1) = i + 1 + k from by omega]
  exact this
theorem AB.range {W : World} {b : Nat} {p : Pm} {s : Ag} {vp f : Value} {G : Nat → Prop} (h : AB W b p s vp f G) (hd : s.dn = false) : W.rangeAt b 10 (pcs s.ps 0 64) := fun j v hv => by
 have hl : j < (pcs s.ps 0 64).length := (List.getElem?_eq_some_iff.1 hv).1
 rw [pcs_len] at hl
 obtain ⟨q1, q2⟩ := pcs_get s.ps 64 0 (j / 2) (by omega)
 obtain ⟨e1, e2⟩ := h.prop hd (r := j / 2) (by omega)
 rw [Nat.zero_add] at q1 q2
 have : j = j / 2 * 2 ∨ j = j / 2 * 2 + 1 := by omega
 rcases this with e | e
 ·rw [e] at hv ⊢
  rw [q1] at hv
  injection hv with hv
  rw [← hv]; exact e1
 ·rw [e] at hv ⊢
  rw [q2] at hv
  injection hv with hv
  rw [← hv]; exact e2
theorem isAgg60 (w : World) : (isAgg 60).run Try.prog w = .ok true w := by kernel_rfl
theorem size60 : (Try.prog.info? 60).map (·.size) = some 2 := by kernel_rfl
theorem size61 : (Try.prog.info? 61).map (·.size) = some 128 := by kernel_rfl
theorem run_pick (ps : List Vt) {i : Nat} (h : i < 64) (w : World) : (Instr.index 61 (.agg (pcs ps 0 64).toArray) (.int .i64 (i : Int))).run Try.prog w = .ok (.agg #[.string (pvl ps i), .int .i64 (pva ps i)]) w := by
 obtain ⟨q1, q2⟩ := pcs_get ps 64 0 i h
 rw [Nat.zero_add] at q1 q2
 have hl := pcs_len ps 64 0
 have he : List.take 2 (List.drop (i * 2) (pcs ps 0 64)) = [.string (pvl ps i), .int .i64 (pva ps i)] := by
  apply List.ext_getElem?
  intro k
  rw [List.getElem?_take, List.getElem?_drop]
  match k with
  | 0 => simpa using q1
  | 1 => simpa using q2
  | k + 2 => simp; omega
 obtain ⟨t, ht, hs⟩ : ∃ t, Try.prog.info? 60 = some t ∧ t.size = 2 := by
  have := size60
  cases q : Try.prog.info? 60 with
  | none => rw [q] at this; cases this
  | some t => rw [q] at this; exact ⟨t, rfl, by simpa using this⟩
 have h0 : (0 : Int) ≤ (i : Int) ∧ (i : Int) < ((64 : Nat) : Int) := by omega
 simp only [Instr.index, asIntOf, Sem.run_bind, Sem.run_pure, Result.andThen_ok, run_underlying Try.underlying61, h0, and_self, if_true, sizeOf, typeInfo, part, isAgg60, Int.toNat_natCast]
 simp [go_sem, ht, hs, he]

theorem seek_step (f : Nat → Option ByteArray) {j : Nat} (h : j < 64) (hf : f j = none) : seekA f j (64 - j) = seekA f (j + 1) (64 - (j + 1)) := by
 rw [show 64 - j = (64 - (j + 1)) + 1 from by omega]
 show (match f j with | some b => some b | none => seekA f (j + 1) (64 - (j + 1))) = _
 rw [hf]
theorem seek_hit (f : Nat → Option ByteArray) {j : Nat} (h : j < 64) {B : ByteArray} (hf : f j = some B) : seekA f j (64 - j) = some B := by
 rw [show 64 - j = (64 - (j + 1)) + 1 from by omega]
 show (match f j with | some b => some b | none => seekA f (j + 1) (64 - (j + 1))) = _
 rw [hf]
theorem hit_of {p : Pm} {s : Ag} (hi : InvA p s) (j : Nat) : (pvl s.ps j).size ≤ 4096 ∧ ((pvl s.ps j).size = 0 → hitA p s j = none) ∧ ((pvl s.ps j).size ≠ 0 → hitA p s j = if isA p s.vs 3 (j : Int) (pvl s.ps j) = true then some (pvl s.ps j) else none) := by
 unfold hitA pvl
 cases q : propA s.ps (j : Int) with
 | none => exact ⟨by decide, fun _ => rfl, fun h => absurd rfl h⟩
 | some m =>
  have := prop_wf hi q
  exact ⟨this.2.2.2.2, fun h => absurd h this.2.2.2.1, fun _ => rfl⟩
/-- What is left of a part that decides. -/
theorem RX.done {w0 W W' : World} {F0 : Nat → Prop} {b c d : Nat} {p : Pm} {s : Ag} {out : List Vt} {vp : Value} {G : Nat → Prop} {u : Value} (h : RX w0 F0 b c d p s out vp G u W) (B : ByteArray) (hc : Chg (fun k => k = b) W W') {g' : Nat → Value} (hb : Blk W' b 141 g') (hg : ∀ g, AC p s vp (sayF c d) g → Blk W b 141 g → AC p { s with dn := true, dc := B } vp (sayF c d) g') : RX w0 F0 b c d p { s with dn := true, dc := B } out vp G u W' := by
 obtain ⟨g, h1, h2⟩ := h.ab.blk
 have nc : c ≠ b := fun z => h.gc (z ▸ h.ab.inG)
 have nd : d ≠ b := fun z => h.gd (z ▸ h.ab.inG)
 refine ⟨⟨⟨g', hb, hg g h2 h1⟩, h.ab.inG, fun k q => Nat.lt_of_lt_of_le (h.ab.lt k q) hc.size, fun q => by cases q⟩, h.sub, h.chg.trans hc (fun k q => ?_), h.hc.keep hc.size (hc.block c h.hc.1 nc), h.hd.keep hc.size (hc.block d h.hd.1 nd), h.c0, h.d0, h.cd, h.gc, h.gd, ?_, h.ou⟩
 ·rw [show k = b from q]; exact h.sub b h.ab.inG
 ·exact own_keep h.own fun k q => hc.block k (h.own.lt k q).2 (fun z => (h.ou k q).1 (by rw [show k = b from z]; exact h.ab.inG))

/-- What a rule does: it applies, or not. -/
def RuleP (R : Option (Ag × List Vt)) (w0 : World) (F0 : Nat → Prop) (b c d : Nat) (p : Pm) (s : Ag) (out : List Vt) (e : Ending) (w' : World) : Prop := match R with
 | some x => e = .returned (.bool true) ∧ Run w0 F0 b c d p x.1 (out ++ x.2) w'
 | none => e = .returned (.bool false) ∧ Run w0 F0 b c d p s out w'
theorem Blk.cells {w : World} {b n : Nat} {g : Nat → Value} (h : Blk w b n g) {o : Nat} (vs : List Value) (hn : o + vs.length ≤ n) : Blk (w.setCells b o vs) b n (fun j => if o ≤ j ∧ j < o + vs.length then vs.getD (j - o) undef else g j) := by
 refine ⟨by rw [(setCells_heap b vs o w).1]; exact h.1, fun j hj => ⟨?_, by rw [World.frozen?_setCells]; exact (h.2 j hj).2⟩⟩
 dsimp only
 by_cases e : o ≤ j ∧ j < o + vs.length
 ·rw [if_pos e]
  have := World.cell?_setCells_in b vs o w (fun i hi => by rw [(h.2 (o + i) (by omega)).1]; rfl) (j - o) (by omega)
  rw [show o + (j - o) = j from by omega] at this
  rw [this, List.getD_eq_getElem?_getD, List.getElem?_eq_getElem (by omega), Option.getD_some]
 ·rw [if_neg e, World.cell?_setCells_out b vs o w ⟨b, j, none⟩ (fun _ _ => by show j < o ∨ o + vs.length ≤ j; omega)]
  exact (h.2 j hj).1
theorem Chg.cells {F : Nat → Prop} {a w : World} {b : Nat} (h : Chg F a w) (hb : F b) (o : Nat) (vs : List Value) : Chg F a (w.setCells b o vs) := by
 obtain ⟨e1, e2, e3⟩ := setCells_same b vs o w
 obtain ⟨s1, s2⟩ := setCells_heap b vs o w
 exact ⟨e1.trans h.os, e2.trans h.tape, e3.trans h.output, by rw [s1]; exact h.size, fun k hk hn => (s2 k (fun z => hn (z ▸ hb))).trans (h.block k hk hn)⟩
theorem Run.range {w0 W : World} {F0 : Nat → Prop} {b c d : Nat} {p : Pm} {s : Ag} {out : List Vt} (h : Run w0 F0 b c d p s out W) (hd : s.dn = false) : W.rangeAt b 10 (pcs s.ps 0 64) := by
 obtain ⟨vp, G, u, h⟩ := h
 exact h.ab.range hd
theorem Run.most {w0 W : World} {F0 : Nat → Prop} {b c d : Nat} {p : Pm} {s : Ag} {out : List Vt} (hp : okP p) (hi : InvA p s) (hd : s.dn = false) {k r : Int} (B : ByteArray) (hk : (Lit.int .i64 k).wf = true) (hr : (Lit.int .i64 r).wf = true) (h : Run w0 F0 b c d p s out W) :
  Calls Try.prog 56 #[.pointer (some ⟨b, 0, none⟩), .int .i64 k, .int .i64 r, .string B] W fun e w' => e = .returned (.bool (isA p s.vs k r B)) ∧ Ext W w' := by
 obtain ⟨vp, G, u, h⟩ := h
 exact most_any hp hi hd B hk hr h.ab
theorem wf_nat {j : Nat} (h : j ≤ 1000) : (Lit.int .i64 (j : Int)).wf = true := WalkArith.wf_i64 (by omega)

theorem chg_b {a w : World} {b i : Nat} {v : Value} (h : Chg (fun k => k = b) a w) : Chg (fun k => k = b) a (w.setCell ⟨b, i, none⟩ v) := Chg.st (F := fun k => k = b) (.inl rfl) h
set_option maxHeartbeats 4000000 in
theorem decide_any {w0 W : World} {F0 : Nat → Prop} {b c d : Nat} {p : Pm} {s : Ag} {out : List Vt} (hp : okP p) (hi : InvA p s) (hd : s.dn = false) (h : Run w0 F0 b c d p s out W) :
  Calls Try.prog 43 #[.pointer (some ⟨b, 0, none⟩)] W fun e w' => RuleP (r1 p s) w0 F0 b c d p s out e w' := by
 have HR0 : Hid (Run w0 F0 b c d p s out W) := h
 have HM : Hid (∀ (j : Nat) wx, j < 64 → Run w0 F0 b c d p s out wx → Calls Try.prog 56 #[.pointer (some ⟨b, 0, none⟩), .int .i64 3, .int .i64 (j : Int), .string (pvl s.ps j)] wx fun e w' => e = .returned (.bool (isA p s.vs 3 (j : Int) (pvl s.ps j))) ∧ Ext wx w') := fun j wx hj hx => hx.most hp hi hd (pvl s.ps j) wf3 (wf_nat (by omega))
 have HI : Hid (InvA p s) := hi
 have HD : Hid (s.dn = false) := hd
 have HLd : Hid (W.rangeAt b 10 (pcs s.ps 0 64)) := h.range hd
 have HX : Hid (∀ (j : Nat) w, j < 64 → (Instr.index 61 (.agg (pcs s.ps 0 64).toArray) (.int .i64 (j : Int))).run Try.prog w = .ok (.agg #[.string (pvl s.ps j), .int .i64 (pva s.ps j)]) w) := fun j w hj => run_pick s.ps hj w
 obtain ⟨hb, _⟩ := h.at
 clear h hp hi hd
 go_enter Try.func43, Try.ntmps43
 go_wp2_with fail
 refine wp_load_mid 61 (.tmp 7) rfl b 10 rfl (pcs s.ps 0 64) _ HLd.out Try.underlying61 rfl (by rw [pcs_len]; exact size61) ?_
 clear HLd
 generalize (pcs s.ps 0 64).toArray = A at *
 go_wp2_with fail
 go_loopw [9] (fun u9 wr => ∃ j : Nat, j ≤ 64 ∧ u9 = .int .i64 j ∧ Hid (Run w0 F0 b c d p s out wr) ∧ Hid (seekA (hitA p s) 0 64 = seekA (hitA p s) j (64 - j))) (fun u9 _ => 64 - (intOf u9).toNat)
 case atStart => exact ⟨0, by omega, rfl, HR0, rfl⟩
 case round =>
  obtain ⟨j, hj, rfl, HR, HQ⟩ := hrel
  clear HR0 hb
  by_cases hlt : j < 64
  ·obtain ⟨q1, q0, qw⟩ := lp_nums j 64 hlt (by omega)
   have hx := fun w => HX.out j w hlt
   obtain ⟨hs0, he, hs⟩ := hit_of HI.out j
   have He : Hid ((pvl s.ps j).size = 0 → hitA p s j = none) := he
   have Hs : Hid ((pvl s.ps j).size ≠ 0 → hitA p s j = if isA p s.vs 3 (j : Int) (pvl s.ps j) = true then some (pvl s.ps j) else none) := hs
   have Hm : Hid (∀ wx, Run w0 F0 b c d p s out wx → Calls Try.prog 56 #[.pointer (some ⟨b, 0, none⟩), .int .i64 3, .int .i64 (j : Int), .string (pvl s.ps j)] wx fun e w' => e = .returned (.bool (isA p s.vs 3 (j : Int) (pvl s.ps j))) ∧ Ext wx w') := fun wx hw => HM.out j wx hlt hw
   clear he hs hs0
   generalize hB : pvl s.ps j = B at *
   generalize pva s.ps j = va at *
   by_cases h0 : B.size = 0
   ·have q4 := isEmpty_nil h0
    have q5 := toList_nil h0
    have HN : Hid (hitA p s j = none) := He.out h0
    clear h0 hB
    go_wp2_with fail
    go_roundw
    case rel => exact ⟨j + 1, hlt, by push_cast; rfl, HR.out.ext ((Ext.refl wr).alloc _), HQ.out.trans (seek_step _ hlt HN.out)⟩
    case measure => exact lp_meas hlt
   ·have q4 := isEmpty_some h0
    have q5 := toList_some h0
    have HN : Hid (hitA p s j = if isA p s.vs 3 (j : Int) B = true then some B else none) := Hs.out h0
    clear h0
    go_wp2_with fail
    refine (Hm.out _ (HR.out.ext ((Ext.refl wr).alloc _))).mono ?_
    rintro e w1 ⟨rfl, HX1⟩
    have HR1 : Hid (Run w0 F0 b c d p s out w1) := (HR.out.ext ((Ext.refl wr).alloc _)).ext HX1
    have HP : Hid (w1.cell? ⟨wr.heap.size, 0, none⟩ = some (.string B) ∧ wr.heap.size < w1.heap.size) := ⟨later HX1 (by rw [World.cell?_alloc_at _ _ _ _ rfl]; rfl), Nat.lt_of_lt_of_le (by simp) HX1.size⟩
    clear HX1 HR Hm
    generalize wr.heap.size = g at *
    by_cases hm : isA p s.vs 3 (j : Int) B = true
    ·rw [hm]
     have HN2 : Hid (r1 p s = some ({ s with dn := true, dc := B }, [])) := by
      show r1 p s = _
      unfold r1
      rw [HQ.out, seek_hit _ hlt (HN.out.trans (if_pos hm))]
      rfl
     obtain ⟨p0, pl⟩ := HP.out
     have HR2 := HR1.out
     obtain ⟨vp, G, u, HR3⟩ := HR2
     have HR4 : Hid (RX w0 F0 b c d p s out vp G u w1) := HR3
     obtain ⟨g0, hB0, hA0⟩ := HR3.ab.blk
     have hb := hB0.1
     have c139 := (hB0.2 139 (by decide)).1
     have c3 := (hB0.2 3 (by decide)).1
     have c8 := (hB0.2 8 (by decide)).1
     have c9 := (hB0.2 9 (by decide)).1
     have c138 := (hB0.2 138 (by decide)).1
     have z139 := (hB0.2 139 (by decide)).2
     have z3 := (hB0.2 3 (by decide)).2
     have z8 := (hB0.2 8 (by decide)).2
     have z9 := (hB0.2 9 (by decide)).2
     have z138 := (hB0.2 138 (by decide)).2
     have HB0 : Hid (Blk w1 b 141 g0) := hB0
     clear hB0 hA0 HR3 hm HN HQ HR1
     go_wp2_with fail
     obtain ⟨X4, hX4⟩ : ∃ X, (((w1.setCell ⟨b, 139, none⟩ (.string B)).setCell ⟨b, 3, none⟩ (.string ⟨#[]⟩)).setCell ⟨b, 8, none⟩ (.string ⟨#[]⟩)).setCell ⟨b, 9, none⟩ (.int .i64 0) = X := ⟨_, rfl⟩
     rw [hX4]
     have HB4 := ((((HB0.out.put (i := 139) (by decide) (.string B)).put (i := 3) (by decide) (.string ⟨#[]⟩)).put (i := 8) (by decide) (.string ⟨#[]⟩)).put (i := 9) (by decide) (.int .i64 0))
     rw [hX4] at HB4
     have HC4 : Chg (fun k => k = b) w1 X4 := by rw [← hX4]; exact chg_b (chg_b (chg_b (chg_b (Chg.refl (fun k => k = b) w1))))
     clear hX4 c139 c3 c8 c9 c138 z139 z3 z8 z9 z138 hb
     have hl : Try.zeroCells61.toList.length = 128 := by kernel_rfl
     have h1 : Try.zeroCells61.all (·.oneCell') = true := by kernel_rfl
     generalize Try.zeroCells61 = Z at *
     have hst := run_storeCells_cells (P := Try.prog) b 10 Z.toList 0 X4 (fun j hj => by rw [(HB4.2 (10 + 0 + j) (by omega)).1]; rfl) (fun j hj => (HB4.2 (10 + 0 + j) (by omega)).2) (fun v hv => (Array.all_eq_true_iff_forall_mem.1 h1) v (by simpa using hv))
     rw [Nat.add_zero] at hst
     have HB5 := HB4.cells Z.toList (o := 10) (by omega)
     have HC5 : Hid (Chg (fun k => k = b) w1 (X4.setCells b 10 Z.toList)) := HC4.cells rfl 10 _
     rw [hst]
     clear hst h1 HB4 HC4
     generalize X4.setCells b 10 Z.toList = X5 at *
     have hb := HB5.1
     have c138 := (HB5.2 138 (by decide)).1
     have z138 := (HB5.2 138 (by decide)).2
     have HB6 : Hid _ := HB5
     have Hl : Hid (Z.toList.length = 128) := hl
     clear HB5 hl
     go_wp2_with fail
     refine bodyPost_ret (v := .bool true) (by simp [results, Try.results43, go_sem]) rfl ?_
     unfold RuleP
     rw [HN2.out]
     have hl := Hl.out
     refine ⟨rfl, vp, G, u, ?_⟩
     rw [List.append_nil]
     refine HR4.out.done B (chg_b HC5.out) (Blk.put HB6.out (i := 138) (by decide) _) fun g hA hB => ?_
     have e : ∀ j, j < 141 → g j = g0 j := fun j hj => by
      have a1 := (hB.2 j hj).1
      rw [(HB0.out.2 j hj).1] at a1
      injection a1 with a1
      exact a1.symm
     exact ⟨by simpa [hl, e 0] using hA.c0, by simpa [hl, e 1] using hA.c1, by simpa [hl, e 2] using hA.c2, by simpa [hl, e 4] using hA.c4, by simpa [hl, e 5] using hA.c5, by simpa [hl, e 6] using hA.c6, by simpa [hl, e 7] using hA.c7, by simp [hl], by simpa [hl, e 140] using hA.c140, fun q => (by cases q), fun q => (by cases q), fun q => (by cases q), fun q => (by cases q), fun q => (by cases q)⟩
    ·have hm2 : isA p s.vs 3 (j : Int) B = false := by simpa using hm
     rw [hm2]
     have HN2 : Hid (hitA p s j = none) := HN.out.trans (if_neg hm)
     clear hm hm2 HN HP
     go_wp2_with fail
     go_roundw
     case rel => exact ⟨j + 1, hlt, by push_cast; rfl, HR1, HQ.out.trans (seek_step _ hlt HN2.out)⟩
     case measure => exact lp_meas hlt
  ·obtain rfl : j = 64 := by omega
   have HN : Hid (r1 p s = none) := by
    show r1 p s = none
    unfold r1
    rw [HQ.out]
    rfl
   clear HQ
   go_wp2_with fail
   refine bodyPost_ret (v := .bool false) (by simp [results, Try.results43, go_sem]) rfl ?_
   unfold RuleP
   rw [HN.out]
   exact ⟨rfl, HR.out⟩
end Go.Proofs.Ytmanacbdldfmfaa
