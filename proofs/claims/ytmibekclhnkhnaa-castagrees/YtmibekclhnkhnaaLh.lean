/-
  Parts of several nodes, in a slice, and messages under way to them: what each call leaves of them.
-/
import Derived.Test.YtmibekclhnkhnaaLg
import Derived.Test.YtmibekclhnkhnaaLd
namespace Go.Proofs.Ytmibekclhnkhnaa
open Go.RowKit
def pcs (ps : List Addr) : List Value := ps.map fun a => .pointer (some a)
theorem pcs_one (ps : List Addr) : ∀ u ∈ pcs ps, u.oneCell' = true := by
  intro u hu
  obtain ⟨a, _, rfl⟩ := List.mem_map.1 hu
  rfl
theorem pcs_len (ps : List Addr) : (pcs ps).length = ps.length := by simp [pcs]
/-- The parts of nodes, made since B, apart from one another; the slice pv of their pointers. -/
structure Pt (B : World) (N T F : Nat) (ps : List Addr) (ss : Nat → St) (Gs : Nat → Nat → Prop) (pv : Value) (wr : World) : Prop where
  ext : Ext B wr
  each : ∀ i a, ps[i]? = some a → Cs B (.pointer (some a)) N T F (ss i) (Gs i) wr
  apart : ∀ i j, i < ps.length → j < ps.length → i ≠ j → Asunder (Gs i) (Gs j)
  row : wr.ownsRow B.heap.size 29 1 pv ps.length (pcs ps)
  rb : ∀ b, pv.ownBlock = some b → ∀ i, i < ps.length → ¬ Gs i b
section
variable {B W : World} {N T F : Nat} {ps : List Addr} {ss : Nat → St} {Gs : Nat → Nat → Prop} {pv : Value}
theorem Pt.further {wy : World} (h : Pt B N T F ps ss Gs pv W) (hx : Ext W wy) : Pt B N T F ps ss Gs pv wy := ⟨h.ext.trans hx, fun i a e => (h.each i a e).ext hx, h.apart, own_ext h.row hx, h.rb⟩
theorem Pt.low (h : Pt B N T F ps ss Gs pv W) {i : Nat} (hi : i < ps.length) : ∀ k, Gs i k → k < W.heap.size := (h.each i (ps[i]) (List.getElem?_eq_getElem hi)).2.2.2.1
theorem Pt.from (h : Pt B N T F ps ss Gs pv W) {i : Nat} (hi : i < ps.length) : From (Gs i) B.heap.size := (h.each i (ps[i]) (List.getElem?_eq_getElem hi)).2.2.1
theorem Pt.nil (hx : Ext B W) (ss : Nat → St) (Gs : Nat → Nat → Prop) : Pt B N T F [] ss Gs (.slice none 0 0) W := ⟨hx, fun i a e => by simp at e, fun i j hi => absurd hi (Nat.not_lt_zero i), World.ownsRow_nil _ _ _ _, fun b q => by cases q⟩
/-- One part more. -/
theorem Pt.add (h : Pt B N T F ps (fun _ => st0) Gs pv W) {a : Addr} {G : Nat → Prop} {w1 w2 w3 : World} {pv2 : Value} (h1 : Cs B (.pointer (some a)) N T F st0 G w1) (hf : From G W.heap.size) (hx : Ext W w1) (hx2 : Ext w1 w2) (hg : w2.grownBy w3 pv.ownBlock) (ho : w3.ownsRow B.heap.size 29 1 pv2 (ps.length + 1) (pcs ps ++ [.pointer (some a)])) (hb : pv2.ownBlock = pv.ownBlock ∨ pv2.ownBlock = some w2.heap.size) :
    Pt B N T F (ps ++ [a]) (fun _ => st0) (fun i => if i = ps.length then G else Gs i) pv2 w3 := by
  have hl : (ps ++ [a]).length = ps.length + 1 := by simp
  have hgG : ∀ k, pv.ownBlock = some k → ¬ G k := fun k q z => by have := hf k z; have := (h.row.lt k q).2; omega
  have fx : ∀ k, pv.ownBlock = some k → B.heap.size ≤ k := fun k q => (h.row.lt k q).1
  have hlow : ∀ {i}, i < ps.length → ∀ k, Gs i k → k < W.heap.size := fun hi => h.low hi
  have hchg : Chg (fun k => pv.ownBlock = some k) w2 w3 := (Chg.refl _ w2).grown hg (fun k q => .inl q)
  refine ⟨ext_grown ((h1.old).trans hx2) hg fx, fun i x e => ?_, fun i j hi hj hne k q1 q2 => ?_, ?_, fun b q i hi => ?_⟩
  · by_cases ei : i = ps.length
    · subst ei
      rw [List.getElem?_append_right (Nat.le_refl _), Nat.sub_self] at e
      simp at e
      subst e
      show Cs B _ N T F st0 (if ps.length = ps.length then G else Gs ps.length) w3
      rw [if_pos rfl]
      exact (h1.ext hx2).far hchg (fun k a b => hgG k b a) (fun k q => fx k q)
    · have hi : i < ps.length := by have := (List.getElem?_eq_some_iff.1 e).1; rw [hl] at this; omega
      rw [List.getElem?_append_left hi] at e
      show Cs B _ N T F st0 (if i = ps.length then G else Gs i) w3
      rw [if_neg ei]
      exact (((h.each i x e).ext hx).ext hx2).far hchg (fun k a b => h.rb k b i hi a) (fun k q => fx k q)
  · have q1 : (if i = ps.length then G else Gs i) k := q1
    have q2 : (if j = ps.length then G else Gs j) k := q2
    rw [hl] at hi hj
    by_cases ei : i = ps.length
    · rw [if_pos ei] at q1
      rw [if_neg (by omega)] at q2
      have := hf k q1
      have := hlow (i := j) (by omega) k q2
      omega
    · rw [if_neg ei] at q1
      by_cases ej : j = ps.length
      · rw [if_pos ej] at q2
        have := hf k q2
        have := hlow (i := i) (by omega) k q1
        omega
      · rw [if_neg ej] at q2
        exact h.apart i j (by omega) (by omega) hne k q1 q2
  · rw [hl, show pcs (ps ++ [a]) = pcs ps ++ [.pointer (some a)] from by simp [pcs]]
    exact ho
  · rw [hl] at hi
    intro z
    have z : (if i = ps.length then G else Gs i) b := z
    have zl : b < w2.heap.size := by
      by_cases ei : i = ps.length
      · rw [if_pos ei] at z
        exact Nat.lt_of_lt_of_le (h1.2.2.2.1 b z) hx2.size
      · rw [if_neg ei] at z
        have := hlow (i := i) (by omega) b z
        have := hx.size
        have := hx2.size
        omega
    rcases hb with e | e
    · rw [e] at q
      by_cases ei : i = ps.length
      · rw [if_pos ei] at z; exact hgG b q z
      · rw [if_neg ei] at z; exact h.rb b q i (by omega) z
    · rw [e] at q
      injection q with q
      omega
/-- A part takes a message. -/
theorem Pt.take (h : Pt B N T F ps ss Gs pv W) {j : Nat} (hj : j < ps.length) {s' : St} {wy : World} (hc : ∀ a, ps[j]? = some a → Cs B (.pointer (some a)) N T F s' (Gs j) wy) (hg : Chg (Gs j) W wy) : Pt B N T F ps (upd ss j s') Gs pv wy := by
  refine ⟨Chg.ext h.ext (h.from hj) hg, fun i a e => ?_, h.apart, own_keep h.row (fun k q => hg.block k (h.row.lt k q).2 (h.rb k q j hj)), h.rb⟩
  by_cases ei : i = j
  · subst ei; rw [upd_same]; exact hc a e
  · rw [upd_other ei]
    exact (h.each i a e).far hg (h.apart i j (List.getElem?_eq_some_iff.1 e).1 hj ei) (h.from hj)
/-- And messages under way to them. -/
structure Nn (B : World) (N T F : Nat) (ps : List Addr) (ss : Nat → St) (Gs : Nat → Nat → Prop) (pv : Value) (way : List (Nat × Msg)) (wv : Value) (wr : World) : Prop where
  pt : Pt B N T F ps ss Gs pv wr
  wy : wr.ownsRow 0 53 4 wv way.length (wcs way)
  wb : ∀ b, wv.ownBlock = some b → ∀ i, i < ps.length → ¬ Gs i b
variable {way way2 : List (Nat × Msg)} {wv wv2 : Value}
theorem Nn.further {wy : World} (h : Nn B N T F ps ss Gs pv way wv W) (hx : Ext W wy) : Nn B N T F ps ss Gs pv way wv wy := ⟨h.pt.further hx, own_ext h.wy hx, h.wb⟩
/-- Another row of messages, made since W. -/
theorem Nn.set {wy : World} (h : Pt B N T F ps ss Gs pv W) (hx : Ext W wy) (ho : wy.ownsRow W.heap.size 53 4 wv2 way2.length (wcs way2)) : Nn B N T F ps ss Gs pv way2 wv2 wy :=
  ⟨h.further hx, own_base ho (Nat.zero_le _), fun b q i hi z => by have := h.low hi b z; have := (ho.lt b q).1; omega⟩
theorem Nn.take (h : Nn B N T F ps ss Gs pv way wv W) {j : Nat} (hj : j < ps.length) {s' : St} {wy : World} (hc : ∀ a, ps[j]? = some a → Cs B (.pointer (some a)) N T F s' (Gs j) wy) (hg : Chg (Gs j) W wy) : Nn B N T F ps (upd ss j s') Gs pv way wv wy :=
  ⟨h.pt.take hj hc hg, own_keep h.wy (fun k q => hg.block k (h.wy.lt k q).2 (h.wb k q j hj)), h.wb⟩
end
/-- What comes next, in a slice: a number and a message each. -/
def BrIs (w : World) (v : Value) (L : List (Int × Msg)) : Prop :=
  ∃ (a : Option Addr) (cap : Nat), v = .slice a L.length cap ∧ (0 < L.length → ∃ b o, a = some ⟨b, o, none⟩ ∧ b < w.heap.size ∧ ∀ j x, L[j]? = some x → w.cell? ⟨b, o + j * 4, none⟩ = some (.int .i64 x.1) ∧ w.cell? ⟨b, o + j * 4 + 1, none⟩ = some (.int .i64 x.2.kd) ∧ w.cell? ⟨b, o + j * 4 + 2, none⟩ = some (.int .i64 x.2.fr) ∧ w.cell? ⟨b, o + j * 4 + 3, none⟩ = some (.string x.2.bd))
theorem BrIs.ext {w w' : World} {v : Value} {L : List (Int × Msg)} (h : BrIs w v L) (hx : Ext w w') : BrIs w' v L := by
  obtain ⟨a, cap, hv, h⟩ := h
  refine ⟨a, cap, hv, fun hn => ?_⟩
  obtain ⟨b, o, ha, hb, hc⟩ := h hn
  exact ⟨b, o, ha, Nat.lt_of_lt_of_le hb hx.size, fun j m hj => ⟨later hx (hc j m hj).1, later hx (hc j m hj).2.1, later hx (hc j m hj).2.2.1, later hx (hc j m hj).2.2.2⟩⟩
theorem BrIs.get {w : World} {a : Option Addr} {cap : Nat} {L : List (Int × Msg)} (h : BrIs w (.slice a L.length cap) L) {j : Nat} {x : Int × Msg} (hj : L[j]? = some x) :
    ∃ b o, a = some ⟨b, o, none⟩ ∧ b < w.heap.size ∧ w.cell? ⟨b, o + j * 4, none⟩ = some (.int .i64 x.1) ∧ w.cell? ⟨b, o + j * 4 + 1, none⟩ = some (.int .i64 x.2.kd) ∧ w.cell? ⟨b, o + j * 4 + 2, none⟩ = some (.int .i64 x.2.fr) ∧ w.cell? ⟨b, o + j * 4 + 3, none⟩ = some (.string x.2.bd) := by
  obtain ⟨a', cap', hv, h⟩ := h
  injection hv with e1 e2 e3
  subst e1
  have : j < L.length := (List.getElem?_eq_some_iff.1 hj).1
  obtain ⟨b, o, ha, hb, hc⟩ := h (by omega)
  exact ⟨b, o, ha, hb, hc j x hj⟩
end Go.Proofs.Ytmibekclhnkhnaa
