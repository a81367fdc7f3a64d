/-
 How what comes in is read: a word, a slice of words.
-/
import Derived.Test.YtmanacbdldfmfaaLb
import Derived.Test.YtmanacbdldfmfaaRows
import Derived.WalkKit
import Derived.ProofKit
import Derived.OpenShut
import Derived.ShutString
import Derived.ChangeOld
import Derived.ChangeSame
import Derived.ChangeArms
import Derived.Below
import Derived.Deep.Slices
import Derived.DataReads
namespace Go.Proofs.Ytmanacbdldfmfaa
open Go.ChangeShapes Go.WideShapes Go.ChangeAt Go.RowKit
theorem Try.own : ownKnob Try.prog.godebug = none := by kernel_rfl
theorem Try.laidOut : laidOutB Try.prog = true := by kernel_rfl
theorem Try.cells3o : Try.prog.cellsOf 3 = 1 := by kernel_rfl
theorem Try.cells9o : Try.prog.cellsOf 9 = 1 := by kernel_rfl
theorem Try.cells26o : Try.prog.cellsOf 26 = 5 := by kernel_rfl
theorem Try.cells39o : Try.prog.cellsOf 39 = 5 := by kernel_rfl
theorem slice_form {P : Program} {W : World} {base : Nat} {t e : TypeId} (ht : P.underlying t = some (.slice e)) {v u : Value} (hv : Value.okWide P W .any base t v) (hc : v.cells.toList = [u]) : v = u := by
 cases v <;> first | (simp [Value.cells] at hc; exact hc) | (simp [Value.okWide, Cell.okWide, Cell.ok, ht] at hv; done)
/-- A slice that comes in: its cells, element by element. -/
theorem open_slc {H : Type} {enc : TypeId × Value → H} {P : Program} {W : World} {base : Nat} {t e : TypeId} (ht : P.underlying t = some (.slice e)) {v : Value} {d : DataW H} {p : List MemPlace} (hv : Value.okWide P W .any base t v)
  (h : DataW.Trod enc P W 0 (fun _ => true) true t v d p) : ∃ (a : Option Addr) (n cap : Nat), v = .slice a n cap ∧ n ≤ cap ∧ n ≤ maxLen ∧ (n = 0 ∨ ∃ (a' : Addr) (m : Nat) (D : Nat → DataW H) (Pl : Nat → List MemPlace), a = some a' ∧ ∀ i, i < n → ∃ cs', W.cells? 0 (a'.add (i * P.cellsOf e)) (P.cellsOf e) = some cs' ∧ DataW.trod enc P W 0 (fun _ => true) true m e cs' = some (D i, Pl i)) := by
 obtain ⟨fuel, hf⟩ := h
 rcases Go.Deep.open_slice ht hf with ⟨h1, _⟩ | ⟨a', len, cap, m, k, D, Pl, h1, _, hlc, hcm, hm, _, hel⟩
 ·exact ⟨none, 0, 0, slice_form ht hv h1, Nat.le_refl _, Nat.zero_le _, .inl rfl⟩
 ·refine ⟨some a', len, cap, slice_form ht hv h1, hlc, Nat.le_trans hlc hcm, .inr ⟨a', k, D, Pl, rfl, fun i hi => hel i (by rw [hm]; simp; omega)⟩⟩
theorem cell_nospot {W : World} {a : Addr} {v : Value} (h : W.cell? a = some v) : a.spot = none := by
 unfold World.cell? at h
 split at h
 ·split at h
  ·cases h
  ·rename_i h2
   cases hs : a.spot with
   | none => rfl
   | some _ => rw [hs] at h2; simp at h2
 ·cases h
theorem addr_add {a : Addr} (h : a.spot = none) (k : Nat) : a.add k = ⟨a.block, a.off + k, none⟩ := by
 unfold Addr.add
 by_cases e : k = 0
 ·subst e; rw [if_pos rfl]; cases a; cases h; rfl
 ·rw [if_neg e]
theorem array5 {α : Type} {cs : Array α} (h : cs.size = 5) : ∃ c0 c1 c2 c3 c4, cs = #[c0, c1, c2, c3, c4] := by
 obtain ⟨l⟩ := cs
 match l, h with
 | [c0, c1, c2, c3, c4], _ => exact ⟨c0, c1, c2, c3, c4, rfl⟩
section
variable {H : Type} {enc : TypeId × Value → H} {P : Program} {w : World} {base : Nat} {spare : Nat → Bool} {held : Bool}
theorem trod_five {t : TypeId} {f0 f1 f2 f3 f4 : Field} {fuel : Nat} {cs : List Value} {x : DataW H × List MemPlace} (ht : P.underlying t = some (.struct #[f0, f1, f2, f3, f4])) (h : DataW.trod enc P w base spare held fuel t cs = some x) :
  ∃ y0 y1 y2 y3 y4 n, DataW.trod enc P w base spare held n f0.type ((cs.drop f0.offset).take (P.cellsOf f0.type)) = some y0 ∧ DataW.trod enc P w base spare held n f1.type ((cs.drop f1.offset).take (P.cellsOf f1.type)) = some y1 ∧
   DataW.trod enc P w base spare held n f2.type ((cs.drop f2.offset).take (P.cellsOf f2.type)) = some y2 ∧ DataW.trod enc P w base spare held n f3.type ((cs.drop f3.offset).take (P.cellsOf f3.type)) = some y3 ∧
   DataW.trod enc P w base spare held n f4.type ((cs.drop f4.offset).take (P.cellsOf f4.type)) = some y4 := by
 obtain ⟨xs, n, _, rfl, hl, hlen, hf⟩ := DataW.trod_struct ht h
 match xs, hlen with
 | [y0, y1, y2, y3, y4], _ => exact ⟨y0, y1, y2, y3, y4, n, by simpa using hf 0 f0 rfl, by simpa using hf 1 f1 rfl, by simpa using hf 2 f2 rfl, by simpa using hf 3 f3 rfl, by simpa using hf 4 f4 rfl⟩
end
/-- A word's cells. -/
theorem word_cells {H : Type} {enc : TypeId × Value → H} {W : World} {m : Nat} {c0 c1 c2 c3 c4 : Value} {x : DataW H × List MemPlace} (h : DataW.trod enc Try.prog W 0 (fun _ => true) true m 39 [c0, c1, c2, c3, c4] = some x) :
  ∃ z : Vt, (c0 = .int .i64 z.kd ∧ c1 = .int .i64 z.fr ∧ c2 = .int .i64 z.rd ∧ c3 = .int .i64 z.va ∧ c4 = .string z.vl) ∧ (Lit.int .i64 z.kd).wf = true ∧ (Lit.int .i64 z.rd).wf = true := by
 obtain ⟨y0, y1, y2, y3, y4, m, t0, t1, t2, t3, t4⟩ := trod_five Try.underlying39 h
 obtain ⟨x0, e0, _, w0⟩ := DataW.trod_int Try.underlying3 t0
 obtain ⟨x1, e1, _, _⟩ := DataW.trod_int Try.underlying3 t1
 obtain ⟨x2, e2, _, w2⟩ := DataW.trod_int Try.underlying3 t2
 obtain ⟨x3, e3, _, _⟩ := DataW.trod_int Try.underlying3 t3
 obtain ⟨x4, e4, _, _⟩ := DataW.trod_string Try.underlying9 t4
 simp [Try.cells3o, Try.cells9o] at e0 e1 e2 e3 e4
 exact ⟨⟨x0, x1, x2, x3, x4⟩, ⟨e0, e1, e2, e3, e4⟩, w0, w2⟩
set_option maxRecDepth 10000 in
/-- A word. -/
theorem open_word {H : Type} {enc : TypeId × Value → H} {W : World} {base : Nat} {v : Value} {d : DataW H} {p : List MemPlace} (hv : Value.okWide Try.prog W .any base 39 v)
  (h : DataW.Trod enc Try.prog W 0 (fun _ => true) true 39 v d p) : ∃ z : Vt, v = wv z ∧ (Lit.int .i64 z.kd).wf = true ∧ (Lit.int .i64 z.rd).wf = true := by
 obtain ⟨cs, rfl, hsz, _⟩ : ∃ cs, v = .agg cs ∧ cs.size = Try.prog.cellsOf 39 ∧ Row.okWide Try.prog W .any base 39 cs := by
  simpa [Value.okWide, Try.underlying39] using hv
 rw [Try.cells39o] at hsz
 obtain ⟨c0, c1, c2, c3, c4, rfl⟩ := array5 hsz
 obtain ⟨fuel, hf⟩ := h
 obtain ⟨z, ⟨rfl, rfl, rfl, rfl, rfl⟩, h1, h2⟩ := word_cells hf
 exact ⟨z, rfl, h1, h2⟩
/-- A part's cells. -/
theorem part_cells {H : Type} {enc : TypeId × Value → H} {W : World} {m : Nat} {c0 c1 c2 c3 c4 : Value} {x : DataW H × List MemPlace} (h : DataW.trod enc Try.prog W 0 (fun _ => true) true m 26 [c0, c1, c2, c3, c4] = some x) :
  ∃ z : Vt, (c0 = .int .i64 z.kd ∧ c1 = .int .i64 z.fr ∧ c2 = .int .i64 z.rd ∧ c3 = .int .i64 z.va ∧ c4 = .string z.vl) ∧ (Lit.int .i64 z.kd).wf = true ∧ (Lit.int .i64 z.rd).wf = true := by
 obtain ⟨y0, y1, y2, y3, y4, m, t0, t1, t2, t3, t4⟩ := trod_five Try.underlying26 h
 obtain ⟨x0, e0, _, w0⟩ := DataW.trod_int Try.underlying3 t0
 obtain ⟨x1, e1, _, _⟩ := DataW.trod_int Try.underlying3 t1
 obtain ⟨x2, e2, _, w2⟩ := DataW.trod_int Try.underlying3 t2
 obtain ⟨x3, e3, _, _⟩ := DataW.trod_int Try.underlying3 t3
 obtain ⟨x4, e4, _, _⟩ := DataW.trod_string Try.underlying9 t4
 simp [Try.cells3o, Try.cells9o] at e0 e1 e2 e3 e4
 exact ⟨⟨x0, x1, x2, x3, x4⟩, ⟨e0, e1, e2, e3, e4⟩, w0, w2⟩
set_option maxRecDepth 10000 in
/-- A part. -/
theorem open_part {H : Type} {enc : TypeId × Value → H} {W : World} {base : Nat} {v : Value} {d : DataW H} {p : List MemPlace} (hv : Value.okWide Try.prog W .any base 26 v)
  (h : DataW.Trod enc Try.prog W 0 (fun _ => true) true 26 v d p) : ∃ z : Vt, v = wv z ∧ (Lit.int .i64 z.kd).wf = true ∧ (Lit.int .i64 z.rd).wf = true := by
 obtain ⟨cs, rfl, hsz, _⟩ : ∃ cs, v = .agg cs ∧ cs.size = Try.prog.cellsOf 26 ∧ Row.okWide Try.prog W .any base 26 cs := by
  simpa [Value.okWide, Try.underlying26] using hv
 rw [Try.cells26o] at hsz
 obtain ⟨c0, c1, c2, c3, c4, rfl⟩ := array5 hsz
 obtain ⟨fuel, hf⟩ := h
 obtain ⟨z, ⟨rfl, rfl, rfl, rfl, rfl⟩, h1, h2⟩ := part_cells hf
 exact ⟨z, rfl, h1, h2⟩
theorem list_of {α : Type} (n : Nat) (x : Nat → α) : ((List.range n).map x).length = n ∧ ∀ j y, ((List.range n).map x)[j]? = some y → j < n ∧ x j = y := by
 refine ⟨by simp, fun j y h => ?_⟩
 have hj : j < n := by have := (List.getElem?_eq_some_iff.1 h).1; simpa using this
 simp [hj] at h
 exact ⟨hj, h⟩
set_option maxRecDepth 10000 in
/-- A slice of words. -/
theorem open_words {H : Type} {enc : TypeId × Value → H} {W : World} {base : Nat} {v : Value} {d : DataW H} {p : List MemPlace} (hv : Value.okWide Try.prog W .any base 27 v)
  (h : DataW.Trod enc Try.prog W 0 (fun _ => true) true 27 v d p) : ∃ M : List Vt, WsIs W v M ∧ ∀ m ∈ M, (Lit.int .i64 m.kd).wf = true ∧ (Lit.int .i64 m.rd).wf = true := by
 obtain ⟨a, n, cap, rfl, hcap, hn, h0 | ⟨a', m, D, Pl, rfl, hel⟩⟩ := open_slc Try.underlying27 hv h
 ·subst h0
  exact ⟨[], ⟨_, _, rfl, fun hh => absurd hh (Nat.lt_irrefl 0)⟩, fun m q => by cases q⟩
 ·have key : ∀ i, i < n → ∃ z : Vt, (W.cell? ((a'.add (i * 5)).add 0) = some (.int .i64 z.kd) ∧ W.cell? ((a'.add (i * 5)).add 1) = some (.int .i64 z.fr) ∧ W.cell? ((a'.add (i * 5)).add 2) = some (.int .i64 z.rd) ∧ W.cell? ((a'.add (i * 5)).add 3) = some (.int .i64 z.va) ∧ W.cell? ((a'.add (i * 5)).add 4) = some (.string z.vl)) ∧ (Lit.int .i64 z.kd).wf = true ∧ (Lit.int .i64 z.rd).wf = true := by
   intro i hi
   obtain ⟨cs, hcs, htr⟩ := hel i hi
   rw [Try.cells39o] at hcs
   obtain ⟨_, hl, hc⟩ := World.cells?_some hcs
   match cs, hl with
   | [c0, c1, c2, c3, c4], _ =>
    obtain ⟨z, ⟨rfl, rfl, rfl, rfl, rfl⟩, h1, h2⟩ := word_cells htr
    exact ⟨z, ⟨hc 0 (by omega), hc 1 (by omega), hc 2 (by omega), hc 3 (by omega), hc 4 (by omega)⟩, h1, h2⟩
  by_cases hn0 : n = 0
  ·subst hn0
   exact ⟨[], ⟨_, _, rfl, fun hh => absurd hh (Nat.lt_irrefl 0)⟩, fun m q => by cases q⟩
  have : Inhabited Vt := ⟨⟨0, 0, 0, 0, ⟨#[]⟩⟩⟩
  obtain ⟨x, hx⟩ := Go.Deep.choose_lt key
  obtain ⟨l1, l2⟩ := list_of n x
  refine ⟨(List.range n).map x, ⟨some a', cap, by rw [l1], fun h0 => ?_⟩, fun m hm => ?_⟩
  ·have hc0 := (hx 0 (by omega)).1.1
   have e0 : (a'.add (0 * 5)).add 0 = a' := by unfold Addr.add; simp
   rw [e0] at hc0
   have hs := cell_nospot hc0
   refine ⟨a'.block, a'.off, by cases a'; cases hs; rfl, World.block_lt_of_cell? W a' hc0, fun j y hj => ?_⟩
   obtain ⟨hjn, rfl⟩ := l2 j y hj
   obtain ⟨⟨q0, q1, q2, q3, q4⟩, _⟩ := hx j hjn
   rw [addr_add hs, addr_add rfl] at q0 q1 q2 q3 q4
   exact ⟨q0, q1, q2, q3, q4⟩
  ·obtain ⟨i, hi, rfl⟩ := List.mem_map.1 hm
   exact (hx i (List.mem_range.1 hi)).2
end Go.Proofs.Ytmanacbdldfmfaa
