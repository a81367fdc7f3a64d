/-
  Where a council lies: its block, its map, its letters, its parts, each block with a label.
  has, Waiting, called, also on a council that is none.
-/
import Derived.Test.YtkfpmjepeikpjaaCm
import Derived.Test.YtkfpmjepeikpjaaCMath
import Derived.Test.YtkfpmjepeikpjaaAl
namespace Go.Proofs.Ytkfpmjepeikpjaa
open Go.RowKit Go.Maps
set_option maxRecDepth 10000
def dcC (nd : List Ag) (k : Nat) : ByteArray := if k = 0 then emp else ((nd[k - 1]?).map (·.dc)).getD emp
def cgC (H mb : Nat) (M : Value) (dec : Nat → ByteArray) (j : Nat) : Value := if j = 0 then .int .i64 (H : Int) else if j = 1 then .map (some mb) else if j = 10 then M else .string (dec (j - 2))
def mpC (lv : Nat → Bool) (P : Nat → Nat) (k : Int) : Value := if 1 ≤ k ∧ lv (k.toNat - 1) = true then .pointer (some ⟨P (k.toNat - 1), 0, none⟩) else .pointer none
/-- A council in block cb; mb its map, M its letters, P its parts, lab whose a block is (0: nobody's). -/
structure CO (w W : World) (cb mb : Nat) (q : Cp) (nd : List Ag) (wy : List (Nat × Vt)) (mn : Nat) (lv : Nat → Bool) (dec : Nat → ByteArray) (M : Value) (P : Nat → Nat) (lab : Nat → Nat) : Prop where
 old : Ext w W
 blk : Blk W cb 11 (cgC q.vals.length mb M dec)
 map : Im W mb mn (mpC lv P)
 mail : W.ownsRow w.heap.size 57 6 M wy.length (lcs wy)
 cap : wy.length ≤ 4096
 cbn : w.heap.size ≤ cb
 mbn : w.heap.size ≤ mb
 lc : lab cb = 1
 lm : lab mb = 2
 lr : ∀ k, M.ownBlock = some k → lab k = 3
 prt : ∀ i s, lv i = true → nd[i]? = some s → ∃ vp, AB W (P i) (pmC q i) s vp .nilFunc (fun k => lab k = 4 + i)
 prn : ∀ i k, lv i = true → lab k = 4 + i → w.heap.size ≤ k
 lvl : ∀ i, lv i = true → i < nd.length
 len : nd.length = q.vals.length
section
variable {w W W' : World} {cb mb mn : Nat} {q : Cp} {nd : List Ag} {wy : List (Nat × Vt)} {lv : Nat → Bool} {dec : Nat → ByteArray} {M : Value} {P lab : Nat → Nat}
theorem CO.ext (h : CO w W cb mb q nd wy mn lv dec M P lab) (hx : Ext W W') : CO w W' cb mb q nd wy mn lv dec M P lab :=
 ⟨h.old.trans hx, h.blk.ext hx, h.map.keep (Below.block hx mb h.map.lt), own_ext h.mail hx, h.cap, h.cbn, h.mbn, h.lc, h.lm, h.lr, fun i s a b => by
  obtain ⟨vp, q⟩ := h.prt i s a b
  exact ⟨vp, q.ext hx⟩, h.prn, h.lvl, h.len⟩
theorem CO.relab (h : CO w W cb mb q nd wy mn lv dec M P lab) {lab' : Nat → Nat} (e : ∀ k, k < W.heap.size → lab' k = lab k) (e2 : ∀ k, W.heap.size ≤ k → lab' k = 0) : CO w W cb mb q nd wy mn lv dec M P lab' := by
 refine ⟨h.old, h.blk, h.map, h.mail, h.cap, h.cbn, h.mbn, (e cb h.blk.1).trans h.lc, (e mb h.map.lt).trans h.lm, fun k hk => (e k (h.mail.lt k hk).2).trans (h.lr k hk), fun i s a b => ?_, fun i k a b => ?_, h.lvl, h.len⟩
 · obtain ⟨vp, q⟩ := h.prt i s a b
   refine ⟨vp, ?_⟩
   have : (fun k => lab' k = 4 + i) = fun k => lab k = 4 + i := funext fun k => propext ⟨fun z => by
    by_cases hk : k < W.heap.size
    · rw [← e k hk]; exact z
    · rw [e2 k (by omega)] at z; omega, fun z => (e k (q.lt k z)).trans z⟩
   rw [this]
   exact q
 · by_cases hk : k < W.heap.size
   · exact h.prn i k a (by rw [← e k hk]; exact b)
   · rw [e2 k (by omega)] at b; omega
/-- Letters that are others now. -/
theorem CO.post (h : CO w W cb mb q nd wy mn lv dec M P lab) {W1 : World} {M' : Value} {wy' : List (Nat × Vt)} (hg : W.grownBy W1 M.ownBlock) (hm : W1.ownsRow w.heap.size 57 6 M' wy'.length (lcs wy')) (ho : M'.ownBlock = M.ownBlock ∨ M'.ownBlock = some W.heap.size) (hc : wy'.length ≤ 4096) :
  CO w (W1.setCell ⟨cb, 10, none⟩ M') cb mb q nd wy' mn lv dec M' P (fun k => if M'.ownBlock = some k then 3 else lab k) ∧ ∀ k, k < W.heap.size → lab k = 0 → (if M'.ownBlock = some k then 3 else lab k) = 0 ∧ (W1.setCell ⟨cb, 10, none⟩ M').heap[k]? = W.heap[k]? := by
 have hcb := h.blk.1
 have hmb := h.map.lt
 have mo : ∀ k, k < W.heap.size → lab k ≠ 3 → M.ownBlock ≠ some k := fun k _ h3 e => h3 (h.lr k e)
 have mo' : ∀ k, k < W.heap.size → lab k ≠ 3 → M'.ownBlock ≠ some k := fun k hk h3 e => by
  rcases ho with o | o
  · exact mo k hk h3 (o.symm.trans e)
  · rw [o] at e; injection e with e; omega
 have hst : ∀ k, k < W.heap.size → lab k ≠ 3 → k ≠ cb → (W1.setCell ⟨cb, 10, none⟩ M').heap[k]? = W.heap[k]? := fun k hk h3 hn => by
  rw [Below.heap_setCell W1 ⟨cb, 10, none⟩ M' k (fun e => hn e)]
  exact hg.block k hk (fun e => mo k hk h3 e.symm)
 have c3 : lab cb ≠ 3 := by rw [h.lc]; decide
 have m3 : lab mb ≠ 3 := by rw [h.lm]; decide
 have mc : mb ≠ cb := fun e => by have a := h.lc; have b := h.lm; rw [e] at b; omega
 have hb1 : Blk W1 cb 11 (cgC q.vals.length mb M dec) := h.blk.grown hg (mo cb hcb c3)
 have hsz : (W1.setCell ⟨cb, 10, none⟩ M').heap.size = W1.heap.size := by simp
 refine ⟨⟨?_, ?_, ?_, ?_, hc, h.cbn, h.mbn, ?_, ?_, ?_, fun i s a b => ?_, fun i k a b => ?_, h.lvl, h.len⟩, fun k hk h0 => ?_⟩
 · have e1 : Ext w W1 := ext_grown h.old hg (fun k hk => (h.mail.lt k hk).1)
   exact e1.st h.cbn
 · exact (hb1.put (i := 10) (by decide) M').congr fun j hj => by
    unfold cgC
    by_cases e : j = 10
    · rw [if_pos e, if_neg (by omega), if_neg (by omega), if_pos e]
    · rw [if_neg e, if_neg e]
      simp only [if_neg e]
 · exact h.map.keep (hst mb hmb m3 mc)
 · refine own_keep hm fun k hk => ?_
   rw [Below.heap_setCell W1 ⟨cb, 10, none⟩ M' k (fun e => ?_)]
   have e : k = cb := e
   subst e
   exact mo' k hcb c3 hk
 · show (if _ then 3 else lab cb) = 1
   rw [if_neg (mo' cb hcb c3)]; exact h.lc
 · show (if _ then 3 else lab mb) = 2
   rw [if_neg (mo' mb hmb m3)]; exact h.lm
 · intro k hk
   exact if_pos hk
 · obtain ⟨vp, ha⟩ := h.prt i s a b
   refine ⟨vp, ?_⟩
   have e : (fun k => (if M'.ownBlock = some k then 3 else lab k) = 4 + i) = fun k => lab k = 4 + i := funext fun k => propext ⟨fun z => by
    split at z
    · omega
    · exact z, fun z => by
    rw [if_neg (mo' k (ha.lt k z) (by omega))]; exact z⟩
   rw [e]
   refine ha.keep (by rw [hsz]; exact hg.size) fun k z => hst k (ha.lt k z) (by omega) (fun e => ?_)
   subst e
   have := h.lc
   omega
 · have b : (if M'.ownBlock = some k then 3 else lab k) = 4 + i := b
   split at b
   · omega
   · exact h.prn i k a b
 · rw [if_neg (mo' k hk (by omega))]
   exact ⟨h0, hst k hk (by omega) (fun e => by subst e; have := h.lc; omega)⟩
/-- The labels behind a part's own call. -/
structure RlC (lab : Nat → Nat) (G : Nat → Prop) (i n : Nat) (f : Nat → Nat) : Prop where
 inn : ∀ k, G k → f k = 4 + i
 new : ∀ k, ¬ G k → n ≤ k → f k = 0
 old : ∀ k, ¬ G k → k < n → lab k ≠ 4 + i → f k = lab k
 gone : ∀ k, ¬ G k → lab k = 4 + i → f k = 0
theorem rl_ex (lab : Nat → Nat) (G : Nat → Prop) (i n : Nat) : ∃ f, RlC lab G i n f :=
 ⟨fun k => @ite _ (G k) (Classical.propDecidable _) (4 + i) (if n ≤ k ∨ lab k = 4 + i then 0 else lab k), fun _ h => if_pos h, fun _ h hk => (if_neg h).trans (if_pos (.inl hk)), fun _ h hk hl => (if_neg h).trans (if_neg (by omega)), fun _ h hl => (if_neg h).trans (if_pos (.inr hl))⟩
theorem RlC.or {lab : Nat → Nat} {G : Nat → Prop} {i n : Nat} {f : Nat → Nat} (h : RlC lab G i n f) (k : Nat) : (G k ∧ f k = 4 + i) ∨ f k = 0 ∨ (f k = lab k ∧ lab k ≠ 4 + i) := by
 by_cases g : G k
 · exact .inl ⟨g, h.inn k g⟩
 · by_cases a : lab k = 4 + i
   · exact .inr (.inl (h.gone k g a))
   · by_cases b : k < n
     · exact .inr (.inr ⟨h.old k g b a, a⟩)
     · exact .inr (.inl (h.new k g (by omega)))
theorem RlC.self {lab : Nat → Nat} {G : Nat → Prop} {i n : Nat} {f : Nat → Nat} (h : RlC lab G i n f) : (fun k => f k = 4 + i) = G := funext fun k => propext ⟨fun z => by
 rcases h.or k with y | y | y
 · exact y.1
 · omega
 · omega, h.inn k⟩
/-- A part that was called, or is new. -/
theorem CO.part (h : CO w W cb mb q nd wy mn lv dec M P lab) {i : Nat} (hi : i < nd.length) {s' : Ag} {G' : Nat → Prop} {vp' : Value} {lv' : Nat → Bool} {P' : Nat → Nat} {mn' : Nat} (hx : Ext w W') (hs : W.heap.size ≤ W'.heap.size)
  (hk : ∀ k, k < W.heap.size → ¬ (lab k = 4 + i ∧ lv i = true) → k ≠ mb → W'.heap[k]? = W.heap[k]?) (hmap : Im W' mb mn' (mpC lv' P')) (hPo : ∀ j, j ≠ i → P' j = P j) (hlv : lv' i = true) (hlvo : ∀ j, j ≠ i → lv' j = lv j)
  (ha : AB W' (P' i) (pmC q i) s' vp' .nilFunc G') (hG : ∀ k, G' k → (lab k = 4 + i ∧ lv i = true) ∨ W.heap.size ≤ k) {f : Nat → Nat} (hf : RlC lab G' i W.heap.size f) : CO w W' cb mb q (nd.set i s') wy mn' lv' dec M P' f := by
 have hcb := h.blk.1
 have hmb := h.map.lt
 have gn : ∀ k, k < W.heap.size → lab k ≠ 4 + i → ¬ G' k := fun k hk hl g => by rcases hG k g with z | z; exact hl z.1; omega
 have ro : ∀ k, k < W.heap.size → lab k ≠ 4 + i → f k = lab k := fun k hk hl => hf.old k (gn k hk hl) hk hl
 have hc4 : lab cb ≠ 4 + i := by rw [h.lc]; omega
 have mc : cb ≠ mb := fun e => by have a := h.lc; have b := h.lm; rw [← e] at b; omega
 refine ⟨hx, h.blk.keep hs (hk cb hcb (fun z => hc4 z.1) mc), hmap, own_keep h.mail (fun k z => hk k (h.mail.lt k z).2 (fun y => by have := h.lr k z; omega) (fun e => by subst e; have := h.lr _ z; have := h.lm; omega)), h.cap, h.cbn, h.mbn, ?_, ?_, fun k z => ?_, fun j s a b => ?_, fun j k a b => ?_, fun j a => ?_, by rw [List.length_set]; exact h.len⟩
 · rw [ro cb hcb hc4]; exact h.lc
 · rw [ro mb hmb (by rw [h.lm]; omega)]; exact h.lm
 · rw [ro k (h.mail.lt k z).2 (by rw [h.lr k z]; omega)]; exact h.lr k z
 · by_cases e : j = i
   · subst e
     rw [List.getElem?_set, if_pos rfl, if_pos hi] at b
     injection b with b
     subst b
     rw [hf.self]
     exact ⟨vp', ha⟩
   · rw [List.getElem?_set, if_neg (fun z => e z.symm)] at b
     rw [hlvo j e] at a
     obtain ⟨vp, hb⟩ := h.prt j s a b
     rw [hPo j e]
     have e2 : (fun k => f k = 4 + j) = fun k => lab k = 4 + j := funext fun k => propext ⟨fun z => by
      rcases hf.or k with y | y | y
      · omega
      · omega
      · omega, fun z => by rw [ro k (hb.lt k z) (by omega)]; exact z⟩
     rw [e2]
     exact ⟨vp, hb.keep hs fun k z => hk k (hb.lt k z) (fun y => by omega) (fun e => by subst e; have := h.lm; omega)⟩
 · by_cases e : j = i
   · subst e
     have : G' k := by rw [← hf.self]; exact b
     rcases hG k this with z | z
     · exact h.prn j k z.2 z.1
     · exact Nat.le_trans h.old.size z
   · have b : f k = 4 + j := b
     rcases hf.or k with y | y | y
     · omega
     · omega
     · exact h.prn j k (by rw [← hlvo j e]; exact a) (by omega)
 · rw [List.length_set]
   by_cases e : j = i
   · subst e; exact hi
   · exact h.lvl j (by rw [← hlvo j e]; exact a)
/-- A decision that is noted. -/
theorem CO.note (h : CO w W cb mb q nd wy mn lv dec M P lab) {j : Nat} (hj : j < 8) (B : ByteArray) : CO w (W.setCell ⟨cb, 2 + j, none⟩ (.string B)) cb mb q nd wy mn lv (fun k => if k = j then B else dec k) M P lab := by
 have hcb := h.blk.1
 have ot : ∀ k, k ≠ cb → (W.setCell ⟨cb, 2 + j, none⟩ (.string B)).heap[k]? = W.heap[k]? := fun k hk => Below.heap_setCell W ⟨cb, 2 + j, none⟩ (.string B) k (fun e => hk e)
 have mc : mb ≠ cb := fun e => by have a := h.lc; have b := h.lm; rw [e] at b; omega
 refine ⟨h.old.st h.cbn, ?_, h.map.keep (ot mb mc), own_keep h.mail (fun k z => ot k (fun e => by subst e; have a := h.lc; have b := h.lr _ z; omega)), h.cap, h.cbn, h.mbn, h.lc, h.lm, h.lr, fun i s a b => ?_, h.prn, h.lvl, h.len⟩
 · exact (h.blk.put (i := 2 + j) (by omega) (.string B)).congr fun k hk => by
    unfold cgC
    by_cases e : k = 2 + j
    · rw [if_pos e, if_neg (by omega), if_neg (by omega), if_neg (by omega)]
      simp only [if_pos (show k - 2 = j from by omega)]
    · rw [if_neg e]
      by_cases e0 : k = 0
      · rw [if_pos e0, if_pos e0]
      · by_cases e1 : k = 1
        · rw [if_neg e0, if_pos e1, if_neg e0, if_pos e1]
        · by_cases e2 : k = 10
          · rw [if_neg e0, if_neg e1, if_pos e2, if_neg e0, if_neg e1, if_pos e2]
          · rw [if_neg e0, if_neg e1, if_neg e2, if_neg e0, if_neg e1, if_neg e2]
            simp only [if_neg (show ¬ k - 2 = j from by omega)]
 · obtain ⟨vp, ha⟩ := h.prt i s a b
   exact ⟨vp, ha.keep (by simp) fun k z => ot k (fun e => by subst e; have z : lab k = 4 + i := z; have := h.lc; omega)⟩
/-- A part that is deleted. -/
theorem CO.drop (h : CO w W cb mb q nd wy mn lv dec M P lab) (i : Nat) {W1 : World} (hg : W.grownBy W1 (some mb)) (hm : Im W1 mb mn (fun j => if j = (i : Int) + 1 then .pointer none else mpC lv P j)) : CO w W1 cb mb q nd wy mn (fun j => if j = i then false else lv j) dec M P lab := by
 have mc : cb ≠ mb := fun e => by have a := h.lc; have b := h.lm; rw [← e] at b; omega
 refine ⟨ext_grown h.old hg (fun k z => by injection z with z; rw [← z]; exact h.mbn), h.blk.grown hg (fun e => by injection e with e; exact mc e.symm), hm.congr fun k => ?_, h.mail.kept hg ?_, h.cap, h.cbn, h.mbn, h.lc, h.lm, h.lr, fun j s a b => ?_, fun j k a b => ?_, fun j a => ?_, h.len⟩
 · unfold mpC
   dsimp only
   by_cases e : k = (i : Int) + 1
   · have e1 : k.toNat - 1 = i := by omega
     simp only [if_pos e, if_pos e1]
     simp
   · rw [if_neg e]
     by_cases e1 : 1 ≤ k
     · have e2 : ¬ k.toNat - 1 = i := by omega
       simp only [if_neg e2]
     · rw [if_neg (fun z => e1 z.1), if_neg (fun z => e1 z.1)]
 · cases e : M.ownBlock with
   | none => exact .inl rfl
   | some k => exact .inr (fun z => by injection z with z; have a := h.lr k e; have b := h.lm; rw [z] at a; omega)
 · by_cases e : j = i
   · rw [if_pos e] at a; cases a
   · rw [if_neg e] at a
     obtain ⟨vp, ha⟩ := h.prt j s a b
     exact ⟨vp, ha.keep hg.size fun k z => hg.block k (ha.lt k z) (fun y => by injection y with y; subst y; have z : lab k = 4 + j := z; have := h.lm; omega)⟩
 · by_cases e : j = i
   · rw [if_pos e] at a; cases a
   · rw [if_neg e] at a; exact h.prn j k a b
 · by_cases e : j = i
   · rw [if_pos e] at a; cases a
   · rw [if_neg e] at a; exact h.lvl j a
end
/-- A council, beside blocks F that are as they were in W0. -/
def CX (w : World) (cb : Nat) (q : Cp) (nd : List Ag) (wy : List (Nat × Vt)) (mn : Nat) (lv : Nat → Bool) (dec : Nat → ByteArray) (P : Nat → Nat) (F : Nat → Prop) (W0 W : World) : Prop :=
 ∃ mb M lab, CO w W cb mb q nd wy mn lv dec M P lab ∧ W0.heap.size ≤ W.heap.size ∧ ∀ k, F k → k < W0.heap.size ∧ lab k = 0 ∧ W.heap[k]? = W0.heap[k]?
section
variable {w W W' W0 : World} {cb mn : Nat} {q : Cp} {nd : List Ag} {wy : List (Nat × Vt)} {lv : Nat → Bool} {dec : Nat → ByteArray} {P : Nat → Nat} {F : Nat → Prop}
theorem CX.ext (h : CX w cb q nd wy mn lv dec P F W0 W) (hx : Ext W W') : CX w cb q nd wy mn lv dec P F W0 W' := by
 obtain ⟨mb, M, lab, hc, hs, hf⟩ := h
 refine ⟨mb, M, lab, hc.ext hx, Nat.le_trans hs hx.size, fun k hk => ?_⟩
 obtain ⟨a, b, c⟩ := hf k hk
 exact ⟨a, b, (Below.block hx k (Nat.lt_of_lt_of_le a hs)).trans c⟩
theorem CX.old (h : CX w cb q nd wy mn lv dec P F W0 W) : Ext w W := by obtain ⟨_, _, _, hc, _⟩ := h; exact hc.old
theorem CX.cap (h : CX w cb q nd wy mn lv dec P F W0 W) : wy.length ≤ 4096 := by obtain ⟨_, _, _, hc, _⟩ := h; exact hc.cap
theorem CX.len (h : CX w cb q nd wy mn lv dec P F W0 W) : nd.length = q.vals.length := by obtain ⟨_, _, _, hc, _⟩ := h; exact hc.len
theorem CX.cell (h : CX w cb q nd wy mn lv dec P F W0 W) {k o : Nat} (hk : F k) : W.cell? ⟨k, o, none⟩ = W0.cell? ⟨k, o, none⟩ ∧ k < W.heap.size := by
 obtain ⟨_, _, _, _, hs, hf⟩ := h
 obtain ⟨a, _, c⟩ := hf k hk
 exact ⟨World.cell?_of_block (a := ⟨k, o, none⟩) c, Nat.lt_of_lt_of_le a hs⟩
/-- Other blocks are watched from here on. -/
theorem CX.watch (h : CX w cb q nd wy mn lv dec P F W0 W) (hx : Ext W W') (F' : Nat → Prop) (hF : ∀ k, F' k → F k ∨ (W.heap.size ≤ k ∧ k < W'.heap.size)) : CX w cb q nd wy mn lv dec P F' W' W' := by
 obtain ⟨mb, M, lab, hc, hs, hf⟩ := h
 refine ⟨mb, M, fun k => if W.heap.size ≤ k then 0 else lab k, (hc.relab (fun k hk => if_neg (by omega)) (fun k hk => if_pos hk)).ext hx, Nat.le_refl _, fun k hk => ?_⟩
 rcases hF k hk with z | ⟨z1, z2⟩
 · obtain ⟨a, b, _⟩ := hf k z
   exact ⟨Nat.lt_of_lt_of_le (Nat.lt_of_lt_of_le a hs) hx.size, by show (if _ then 0 else lab k) = 0; split; rfl; exact b, rfl⟩
 · exact ⟨z2, if_pos z1, rfl⟩
theorem CX.only (h : CX w cb q nd wy mn lv dec P F W0 W) (F' : Nat → Prop) (hF : ∀ k, F' k → F k) : CX w cb q nd wy mn lv dec P F' W0 W := by
 obtain ⟨mb, M, lab, hc, hs, hf⟩ := h
 exact ⟨mb, M, lab, hc, hs, fun k hk => hf k (hF k hk)⟩
end
def lvC (nd : List Ag) (i : Nat) : Bool := ((nd[i]?).map (!·.dn)).getD false
/-- A council as it lies between calls. -/
def CY (w : World) (cb : Nat) (q : Cp) (c : Cn) (W : World) : Prop := ∃ mn P, CX w cb q c.nd c.wy mn (lvC c.nd) (dcC c.nd) P (fun _ => False) w W
theorem CY.ext {w W W' : World} {cb : Nat} {q : Cp} {c : Cn} (h : CY w cb q c W) (hx : Ext W W') : CY w cb q c W' := by
 obtain ⟨mn, P, h⟩ := h
 exact ⟨mn, P, h.ext hx⟩
theorem CY.old {w W : World} {cb : Nat} {q : Cp} {c : Cn} (h : CY w cb q c W) : Ext w W := by obtain ⟨mn, P, h⟩ := h; exact h.old
end Go.Proofs.Ytkfpmjepeikpjaa
namespace Go.Proofs.Ytkfpmjepeikpjaa
open Go.RowKit Go.Maps
set_option maxRecDepth 10000
theorem hon_nil (node : Int) (w : World) : Calls Try.prog 21 #[.pointer none, .int .i64 node] w fun e w' => e = .returned (.bool false) ∧ w' = w := by
 go_enter Try.func21, Try.ntmps21
 go_wp2
 go_ret
 exact ⟨rfl, rfl⟩
theorem hon_any {W : World} {cb : Nat} {H : Nat} (_hb : cb < W.heap.size) (h0 : W.cell? ⟨cb, 0, none⟩ = some (.int .i64 (H : Int))) (node : Int) : Calls Try.prog 21 #[.pointer (some ⟨cb, 0, none⟩), .int .i64 node] W fun e w' => e = .returned (.bool (decide (1 ≤ node ∧ node ≤ (H : Int)))) ∧ w' = W := by
 obtain ⟨r, HR⟩ : ∃ r, Hid (decide (1 ≤ node ∧ node ≤ (H : Int)) = r) := ⟨_, rfl⟩
 rw [HR.out]
 by_cases h1 : 1 ≤ node
 · by_cases h2 : node ≤ (H : Int)
   · have e : Hid (r = true) := HR.out.symm.trans (decide_eq_true ⟨h1, h2⟩)
     clear HR
     go_enter Try.func21, Try.ntmps21
     go_wp2
     go_ret
     exact ⟨by rw [e.out]; rfl, rfl⟩
   · have e : Hid (r = false) := HR.out.symm.trans (decide_eq_false fun z => h2 z.2)
     clear HR
     go_enter Try.func21, Try.ntmps21
     go_wp2
     go_ret
     exact ⟨by rw [e.out]; rfl, rfl⟩
 · have e : Hid (r = false) := HR.out.symm.trans (decide_eq_false fun z => h1 z.1)
   clear HR
   go_enter Try.func21, Try.ntmps21
   go_wp2
   go_ret
   exact ⟨by rw [e.out]; rfl, rfl⟩
theorem waiting_nil (w : World) : Calls Try.prog 14 #[.pointer none] w fun e w' => e = .returned (.int .i64 0) ∧ w' = w := by
 go_enter Try.func14, Try.ntmps14
 go_wp2
 go_ret
 exact ⟨rfl, rfl⟩
theorem waiting_at {W : World} {cb : Nat} {a : Option Addr} {n c : Nat} (_hb : cb < W.heap.size) (h0 : W.cell? ⟨cb, 10, none⟩ = some (.slice a n c)) : Calls Try.prog 14 #[.pointer (some ⟨cb, 0, none⟩)] W fun e w' => e = .returned (.int .i64 (n : Int)) ∧ w' = W := by
 go_enter Try.func14, Try.ntmps14
 go_wp2
 go_ret
 exact ⟨rfl, rfl⟩
theorem CO.mcell {w W : World} {cb mb mn : Nat} {q : Cp} {nd : List Ag} {wy : List (Nat × Vt)} {lv : Nat → Bool} {dec : Nat → ByteArray} {M : Value} {P lab : Nat → Nat} (h : CO w W cb mb q nd wy mn lv dec M P lab) : ∃ a c, M = .slice a wy.length c ∧ W.cell? ⟨cb, 10, none⟩ = some (.slice a wy.length c) := by
 obtain ⟨a, c, e⟩ := own_len h.mail
 have := (h.blk.2 10 (by decide)).1
 rw [show cgC q.vals.length mb M dec 10 = M from rfl, e] at this
 exact ⟨a, c, e, this⟩
theorem CX.honest {w W W0 : World} {cb mn : Nat} {q : Cp} {nd : List Ag} {wy : List (Nat × Vt)} {lv : Nat → Bool} {dec : Nat → ByteArray} {P : Nat → Nat} {F : Nat → Prop} (h : CX w cb q nd wy mn lv dec P F W0 W) : cb < W.heap.size ∧ W.cell? ⟨cb, 0, none⟩ = some (.int .i64 (q.vals.length : Int)) := by
 obtain ⟨_, _, _, hc, _⟩ := h
 exact ⟨hc.blk.1, (hc.blk.2 0 (by decide)).1⟩
theorem waiting_any {w W : World} {cb : Nat} {q : Cp} {c : Cn} (h : CY w cb q c W) : Calls Try.prog 14 #[.pointer (some ⟨cb, 0, none⟩)] W fun e w' => e = .returned (.int .i64 (c.wy.length : Int)) ∧ w' = W := by
 obtain ⟨_, _, _, _, _, hc, _⟩ := h
 obtain ⟨a, d, _, e⟩ := hc.mcell
 exact waiting_at hc.blk.1 e
end Go.Proofs.Ytkfpmjepeikpjaa
