/-
 Votes: where they lie; New, may, Any, Count, called, and what a nil one tells.
-/
import Derived.Test.YtmanacbdldfmfaaPb
namespace Go.Proofs.Ytmanacbdldfmfaa
set_option maxRecDepth 10000
open Go.RowKit
/-- The first n cells of block b. -/
def Blk (w : World) (b n : Nat) (g : Nat → Value) : Prop := b < w.heap.size ∧ ∀ j, j < n → w.cell? ⟨b, j, none⟩ = some (g j) ∧ w.frozen? ⟨b, j, none⟩ = false
theorem Blk.keep {w w' : World} {b n : Nat} {g : Nat → Value} (h : Blk w b n g) (hs : w.heap.size ≤ w'.heap.size) (hb : w'.heap[b]? = w.heap[b]?) : Blk w' b n g :=
 ⟨Nat.lt_of_lt_of_le h.1 hs, fun j hj => ⟨(World.cell?_of_block (a := ⟨b, j, none⟩) hb).trans (h.2 j hj).1, (World.frozen?_of_block (a := ⟨b, j, none⟩) hb).trans (h.2 j hj).2⟩⟩
theorem Blk.ext {w w' : World} {b n : Nat} {g : Nat → Value} (h : Blk w b n g) (hx : Ext w w') : Blk w' b n g := h.keep hx.size (Below.block hx b h.1)
theorem Blk.st {w : World} {b n c i : Nat} {g : Nat → Value} {v : Value} (h : Blk w b n g) (hne : b ≠ c) : Blk (w.setCell ⟨c, i, none⟩ v) b n g := h.keep (by simp) (Below.heap_setCell w ⟨c, i, none⟩ v b hne)
theorem Blk.put {w : World} {b n : Nat} {g : Nat → Value} (h : Blk w b n g) {i : Nat} (hi : i < n) (v : Value) : Blk (w.setCell ⟨b, i, none⟩ v) b n (fun j => if j = i then v else g j) := by
 refine ⟨by simpa using h.1, fun j hj => ⟨?_, by simpa using (h.2 j hj).2⟩⟩
 show _ = some (if j = i then v else g j)
 by_cases e : j = i
 ·subst e
  rw [if_pos rfl]
  rw [World.cell?_setCell_same _ _ _ (by rw [(h.2 j hj).1])]
 ·rw [if_neg e, World.cell?_setCell_other _ _ _ _ (fun q => e (by first | exact congrArg Addr.off q | exact (congrArg Addr.off q).symm))]
  exact (h.2 j hj).1
theorem Blk.congr {w : World} {b n : Nat} {g g' : Nat → Value} (h : Blk w b n g) (e : ∀ j, j < n → g j = g' j) : Blk w b n g' := ⟨h.1, fun j hj => by rw [← e j hj]; exact h.2 j hj⟩
theorem Blk.new (w : World) (cs : Array Value) (t : TypeId) {n : Nat} {g : Nat → Value} (h : ∀ j, j < n → cs[j]? = some (g j)) : Blk (w.alloc (.cells cs t)) w.heap.size n g :=
 ⟨by simp, fun j hj => ⟨by rw [World.cell?_alloc_at _ _ _ _ rfl]; exact h j hj, World.frozen?_alloc_at _ _ _ _ rfl⟩⟩
theorem Blk.grown {w w' : World} {b n : Nat} {g : Nat → Value} {row : Option Nat} (h : Blk w b n g) (hg : w.grownBy w' row) (hne : row ≠ some b) : Blk w' b n g := h.keep hg.size (hg.block b h.1 (fun q => hne q.symm))
/-- The piles of a kind and a round. -/
def pls (L : List Vt) (k r : Int) : List Pile := (dV L k r).map fun v => (v, cntV L k r v, anyV L k r - cntV L k r v)
theorem pls_sum {L : List Vt} {k r : Int} : ∀ p ∈ pls L k r, p.2.1 + p.2.2 = anyV L k r := by
 intro p hp
 obtain ⟨v, _, rfl⟩ := List.mem_map.1 hp
 have := cnt_any L k r v
 show cntV L k r v + (anyV L k r - cntV L k r v) = _
 omega
theorem pls_nil {L : List Vt} {k r : Int} (h : pls L k r = []) : anyV L k r = 0 := any_zero (List.map_eq_nil_iff.1 h)
theorem dV_len (k r : Int) (L : List Vt) : (dV L k r).length ≤ anyV L k r := by
 induction L using snoc_ind with
 | h0 => exact Nat.le_refl _
 | h1 L m ih =>
  rw [dV_snoc, anyV_snoc]
  by_cases h : m.kd = k ∧ m.rd = r
  ·rw [if_pos h, if_pos h]
   split
   ·omega
   ·simp; omega
  ·rw [if_neg h, if_neg h]; exact ih
theorem pls_len (L : List Vt) (k r : Int) : (pls L k r).length ≤ anyV L k r := by unfold pls; rw [List.length_map]; exact dV_len k r L
theorem pls_has {L : List Vt} {k r : Int} {B : ByteArray} : (∃ p ∈ pls L k r, p.1 = B) ↔ B ∈ dV L k r := by
 constructor
 ·rintro ⟨p, hp, rfl⟩
  obtain ⟨v, hv, rfl⟩ := List.mem_map.1 hp
  exact hv
 ·intro h
  exact ⟨_, List.mem_map.2 ⟨B, h, rfl⟩, rfl⟩
theorem pls_get {L : List Vt} {k r : Int} {j : Nat} {v : ByteArray} {x y : Nat} (h : (pls L k r)[j]? = some (v, x, y)) : v ∈ dV L k r ∧ x = cntV L k r v ∧ y = anyV L k r - cntV L k r v := by
 have := List.mem_of_getElem? h
 obtain ⟨v', hv, e⟩ := List.mem_map.1 this
 injection e with e1 e2
 injection e2 with e2 e3
 subst e1
 exact ⟨hv, e2.symm, e3.symm⟩
/-- A vote more at its place. -/
theorem pls_put (L : List Vt) (m : Vt) : pls (L ++ [m]) m.kd m.rd = (addP (pls L m.kd m.rd) (anyV L m.kd m.rd) m.vl).map (up m.vl) := by
 have hc : ∀ v, up m.vl (v, cntV L m.kd m.rd v, anyV L m.kd m.rd - cntV L m.kd m.rd v) = (v, cntV (L ++ [m]) m.kd m.rd v, anyV (L ++ [m]) m.kd m.rd - cntV (L ++ [m]) m.kd m.rd v) := fun v => by
  have h1 := cnt_any L m.kd m.rd v
  rw [cntV_snoc, anyV_snoc, if_pos (show m.kd = m.kd ∧ m.rd = m.rd from ⟨rfl, rfl⟩)]
  unfold up
  by_cases e : v = m.vl
  ·rw [if_pos e, if_pos ⟨rfl, rfl, e.symm⟩, show anyV L m.kd m.rd + 1 - (cntV L m.kd m.rd v + 1) = anyV L m.kd m.rd - cntV L m.kd m.rd v from by omega]
  ·rw [if_neg e, if_neg (fun q => e q.2.2.symm), show anyV L m.kd m.rd + 1 - (cntV L m.kd m.rd v + 0) = anyV L m.kd m.rd - cntV L m.kd m.rd v + 1 from by omega]
   rfl
 unfold addP
 by_cases h : m.vl ∈ dV L m.kd m.rd
 ·rw [if_pos (pls_has.2 h)]
  unfold pls
  rw [dV_snoc, if_pos ⟨rfl, rfl⟩, if_pos h, List.map_map]
  refine List.map_congr_left fun v _ => ?_
  exact (hc v).symm
 ·rw [if_neg (fun q => h (pls_has.1 q))]
  unfold pls
  rw [dV_snoc, if_pos ⟨rfl, rfl⟩, if_neg h, List.map_append, List.map_append, List.map_map]
  congr 1
  ·refine List.map_congr_left fun v _ => ?_
   exact (hc v).symm
  ·have h0 : cntV L m.kd m.rd m.vl = 0 := by
    have := mt (dV_mem m.kd m.rd m.vl L).2 h
    omega
   have := hc m.vl
   rw [h0] at this
   exact congrArg (fun z => [z]) this.symm
theorem pls_other {L : List Vt} {m : Vt} {k r : Int} (h : ¬ (m.kd = k ∧ m.rd = r)) : pls (L ++ [m]) k r = pls L k r := by
 unfold pls
 rw [dV_snoc, if_neg h]
 refine List.map_congr_left fun v _ => ?_
 rw [cntV_snoc, anyV_snoc, if_neg (fun q => h ⟨q.1, q.2.1⟩), if_neg h]
 rfl
/-- Who voted, of a kind and a round. -/
def vf (L : List Vt) (k r : Int) (i : Nat) : Bool := hasV L k r (i : Int)
/-- The cells of votes. -/
def vg (N T bm : Nat) (j : Nat) : Value := if j = 0 then .int .i64 (N : Int) else if j = 1 then .int .i64 (T : Int) else .map (some bm)
/-- Votes: b: their block; bm: that of the boxes; sl: the slices of piles. -/
structure VB (w : World) (b bm : Nat) (sl : Int → Int → Value) (N T : Nat) (L : List Vt) : Prop where
 blk : Blk w b 3 (vg N T bm)
 ne : bm ≠ b
 map : Bm w bm L.length (fun k r => bx (vf L k r) (sl k r))
 pls : ∀ k r, Pl w (sl k r) (pls L k r)
 off : ∀ k r c, (sl k r).ownBlock = some c → c ≠ b ∧ c ≠ bm
 one : ∀ k r k' r' c, (sl k r).ownBlock = some c → (sl k' r').ownBlock = some c → k = k' ∧ r = r'
def vbG (b bm : Nat) (sl : Int → Int → Value) (c : Nat) : Prop := c = b ∨ c = bm ∨ ∃ k r, (sl k r).ownBlock = some c
theorem VB.lt {w : World} {b bm : Nat} {sl : Int → Int → Value} {N T : Nat} {L : List Vt} (h : VB w b bm sl N T L) : ∀ c, vbG b bm sl c → c < w.heap.size := by
 rintro c (rfl | rfl | ⟨k, r, q⟩)
 ·exact h.blk.1
 ·exact h.map.lt
 ·exact ((h.pls k r).lt c q).2
theorem VB.keep {w w' : World} {b bm : Nat} {sl : Int → Int → Value} {N T : Nat} {L : List Vt} (h : VB w b bm sl N T L) (hs : w.heap.size ≤ w'.heap.size) (hk : ∀ c, vbG b bm sl c → w'.heap[c]? = w.heap[c]?) : VB w' b bm sl N T L :=
 ⟨h.blk.keep hs (hk b (.inl rfl)), h.ne, h.map.keep (hk bm (.inr (.inl rfl))), fun k r => (h.pls k r).keep fun c q => hk c (.inr (.inr ⟨k, r, q⟩)), h.off, h.one⟩
theorem VB.ext {w w' : World} {b bm : Nat} {sl : Int → Int → Value} {N T : Nat} {L : List Vt} (h : VB w b bm sl N T L) (hx : Ext w w') : VB w' b bm sl N T L := h.keep hx.size fun c q => Below.block hx c (h.lt c q)
/-- v points to votes; their blocks are G. -/
def VAt (w : World) (v : Value) (N T : Nat) (L : List Vt) (G : Nat → Prop) : Prop := ∃ b bm sl, v = .pointer (some ⟨b, 0, none⟩) ∧ VB w b bm sl N T L ∧ G = vbG b bm sl
theorem VAt.lt {w : World} {v : Value} {N T : Nat} {L : List Vt} {G : Nat → Prop} (h : VAt w v N T L G) : ∀ k, G k → k < w.heap.size := by
 obtain ⟨b, bm, sl, rfl, h, rfl⟩ := h
 exact h.lt
theorem VAt.keep {w w' : World} {v : Value} {N T : Nat} {L : List Vt} {G : Nat → Prop} (h : VAt w v N T L G) (hs : w.heap.size ≤ w'.heap.size) (hk : ∀ k, G k → w'.heap[k]? = w.heap[k]?) : VAt w' v N T L G := by
 obtain ⟨b, bm, sl, rfl, h, rfl⟩ := h
 exact ⟨b, bm, sl, rfl, h.keep hs hk, rfl⟩
theorem VAt.form {w : World} {v : Value} {N T : Nat} {L : List Vt} {G : Nat → Prop} (h : VAt w v N T L G) : ∃ a, v = .pointer (some a) := by
 obtain ⟨b, bm, sl, rfl, _⟩ := h
 exact ⟨_, rfl⟩
theorem VAt.ext {w w' : World} {v : Value} {N T : Nat} {L : List Vt} {G : Nat → Prop} (h : VAt w v N T L G) (hx : Ext w w') : VAt w' v N T L G := h.keep hx.size fun k hk => Below.block hx k (h.lt k hk)
theorem VAt.far {w w' : World} {v : Value} {N T : Nat} {L : List Vt} {G H : Nat → Prop} (h : VAt w v N T L G) (hx : Chg H w w') (ha : Asunder G H) : VAt w' v N T L G := h.keep hx.size fun k hk => hx.block k (h.lt k hk) (fun q => ha k hk q)
/-- There are such nodes. -/
abbrev hasQ (n t : Int) : Prop := 0 ≤ t ∧ t ≤ 2 ∧ 3 * t + 1 ≤ n ∧ n ≤ 7
/-- How many are a quorum. -/
def qI (n t : Int) : Int := if hasQ n t then (n + t) / 2 + 1 else 0
theorem qI_nat {N T : Nat} (h : hasQ (N : Int) (T : Int)) : qI N T = (qmV N T : Int) := by
 unfold qI qmV; rw [if_pos h]; omega
theorem q_pos {n t : Int} (h : hasQ n t) : ¬ qI n t = 0 := by
 unfold qI
 rw [if_pos h]
 obtain ⟨h1, h2, h3, h4⟩ := h
 omega
set_option maxHeartbeats 1000000 in
theorem vnew_bad (n t : Int) (h : ¬ hasQ n t) (w : World) : Calls Try.prog 23 #[.int .i64 n, .int .i64 t] w fun e w' => e = .returned (.pointer none) ∧ Ext w w' := by
 have HE : Hid (Ext w w) := Ext.refl w
 by_cases b1 : t < 0
 ·clear h
  go_enter Try.func23, Try.ntmps23
  go_wp2
  go_ret
  exact ⟨rfl, HE.out⟩
 ·by_cases b2 : 2 < t
  ·clear h
   go_enter Try.func23, Try.ntmps23
   go_wp2
   go_ret
   exact ⟨rfl, HE.out⟩
  ·have e1 : IntKind.i64.wrap (3 * t) = 3 * t := by rw [IntKind.wrap_i64]; omega
   have e2 : IntKind.i64.wrap (3 * t + 1) = 3 * t + 1 := by rw [IntKind.wrap_i64]; omega
   by_cases b3 : n < 3 * t + 1
   ·clear h
    go_enter Try.func23, Try.ntmps23
    go_wp2
    go_ret
    exact ⟨rfl, HE.out⟩
   ·have b4 : 7 < n := by unfold hasQ at h; omega
    clear h
    go_enter Try.func23, Try.ntmps23
    go_wp2
    go_ret
    exact ⟨rfl, HE.out⟩
/-- What New leaves. -/
def NewP (N T : Nat) (w : World) (e : Ending) (w' : World) : Prop := ∃ v G, e = .returned v ∧ VAt w' v N T [] G ∧ From G w.heap.size ∧ Ext w w'
set_option maxHeartbeats 1000000 in
theorem vnew_good (N T : Nat) (h : hasQ N T) (w : World) : Calls Try.prog 23 #[.int .i64 (N : Int), .int .i64 (T : Int)] w fun e w' => NewP N T w e w' := by
 have HE : Hid (Ext w w) := Ext.refl w
 obtain ⟨h1, h2, h3, h4⟩ := h
 have e1 : IntKind.i64.wrap (3 * (T : Int)) = 3 * (T : Int) := by rw [IntKind.wrap_i64]; omega
 have e2 : IntKind.i64.wrap (3 * (T : Int) + 1) = 3 * (T : Int) + 1 := by rw [IntKind.wrap_i64]; omega
 have a1 : ¬ (T : Int) < 0 := by omega
 have a2 : ¬ 2 < (T : Int) := by omega
 have a3 : ¬ (N : Int) < 3 * (T : Int) + 1 := by omega
 have a4 : ¬ 7 < (N : Int) := by omega
 have hmm := @run_makeMap Try.prog
 go_enter Try.func23, Try.ntmps23
 go_wp2
 refine bodyPost_ret (v := .pointer (some ⟨w.heap.size + 1, 0, none⟩)) (by simp [results, Try.results23, go_sem]) rfl ⟨_, vbG (w.heap.size + 1) w.heap.size (fun _ _ => .slice none 0 0), rfl, ⟨w.heap.size + 1, w.heap.size, fun _ _ => .slice none 0 0, rfl, ⟨?_, by omega, (bm_new w).keep (Below.block ((Ext.refl _).alloc _) _ (by simp)), fun k r => World.ownsRow_nil _ _ _ _, fun k r c q => (by cases q), fun k r k' r' c q => (by cases q)⟩, rfl⟩, ?_, (HE.out.alloc _).alloc _⟩
 ·have := Blk.new (w.alloc (.map #[] 0)) (n := 3) (g := vg N T w.heap.size) #[.int .i64 (N : Int), .int .i64 (T : Int), .map (some w.heap.size)] 78 (fun j hj => by
   have : j = 0 ∨ j = 1 ∨ j = 2 := by omega
   rcases this with rfl | rfl | rfl <;> rfl)
  rw [show (w.alloc (.map #[] 0)).heap.size = w.heap.size + 1 from by simp] at this
  exact this
 ·rintro k (rfl | rfl | ⟨_, _, q⟩)
  ·omega
  ·exact Nat.le_refl _
  ·cases q
/-- A word, handed in. -/
abbrev wv (m : Vt) : Value := .agg #[.int .i64 m.kd, .int .i64 m.fr, .int .i64 m.rd, .int .i64 m.va, .string m.vl]
set_option maxHeartbeats 1000000 in
theorem vput_nil (m : Vt) (w : World) : Calls Try.prog 41 #[.pointer none, wv m] w fun e w' => e = .returned (.bool false) ∧ Ext w w' := by
 have HE : Hid (Ext w w) := Ext.refl w
 go_enter Try.func41, Try.ntmps41
 go_wp2
 go_ret
 exact ⟨rfl, HE.out.alloc _⟩
set_option maxHeartbeats 1000000 in
theorem vmost_nil (k r : Int) (w : World) : Calls Try.prog 62 #[.pointer none, .int .i64 k, .int .i64 r] w fun e w' => e = .returned (.tuple #[.string ⟨#[]⟩, .bool false]) ∧ Ext w w' := by
 have HE : Hid (Ext w w) := Ext.refl w
 go_enter Try.func62, Try.ntmps62
 go_wp2
 refine bodyPost_ret (v := .tuple #[.string ⟨#[]⟩, .bool false]) (by simp [results, Try.results62, go_sem]) rfl ⟨rfl, HE.out⟩
set_option maxHeartbeats 1000000 in
theorem vahead_nil (r : Int) (w : World) : Calls Try.prog 57 #[.pointer none, .int .i64 r] w fun e w' => e = .returned (.int .i64 (-1)) ∧ Ext w w' := by
 have HE : Hid (Ext w w) := Ext.refl w
 go_enter Try.func57, Try.ntmps57
 go_wp2
 go_ret
 exact ⟨rfl, HE.out⟩
theorem vbx {w : World} {b bm : Nat} {sl : Int → Int → Value} {N T : Nat} {L : List Vt} (h : VB w b bm sl N T L) : w.cell? ⟨b, 0, none⟩ = some (.int .i64 (N : Int)) ∧ w.cell? ⟨b, 1, none⟩ = some (.int .i64 (T : Int)) ∧ w.cell? ⟨b, 2, none⟩ = some (.map (some bm)) ∧ b < w.heap.size :=
 ⟨(h.blk.2 0 (by decide)).1, (h.blk.2 1 (by decide)).1, (h.blk.2 2 (by decide)).1, h.blk.1⟩
theorem fld53 (f : Nat → Bool) (p : Option Addr) (n c : Nat) (w : World) : (Instr.field 91 (.agg #[.bool (f 0), .bool (f 1), .bool (f 2), .bool (f 3), .bool (f 4), .bool (f 5), .bool (f 6), .bool (f 7), .slice p n c]) 1).run Try.prog w = .ok (.slice p n c) w := by kernel_rfl
theorem VB.look {w : World} {b bm : Nat} {sl : Int → Int → Value} {N T : Nat} {L : List Vt} (h : VB w b bm sl N T L) {k r : Int} (hk : (Lit.int .i64 k).wf = true) (hr : (Lit.int .i64 r).wf = true) : (Instr.lookup 76 (.map (some bm)) (.agg #[.int .i64 k, .int .i64 r]) false).run Try.prog w = .ok (.agg #[.bool (vf L k r 0), .bool (vf L k r 1), .bool (vf L k r 2), .bool (vf L k r 3), .bool (vf L k r 4), .bool (vf L k r 5), .bool (vf L k r 6), .bool (vf L k r 7), sl k r]) w := h.map.look hk hr
end Go.Proofs.Ytmanacbdldfmfaa
