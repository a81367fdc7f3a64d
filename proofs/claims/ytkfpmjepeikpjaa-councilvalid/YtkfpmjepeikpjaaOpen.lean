/-
 How what comes in is read: a world, a deed, a slice of deeds.
-/
import Derived.Test.YtkfpmjepeikpjaaLs
import Derived.Test.YtkfpmjepeikpjaaRows
import Derived.WalkKit
import Derived.ProofKit
import Derived.OpenShut
import Derived.ShutString
import Derived.ChangeOld
import Derived.ChangeSame
import Derived.ChangeArms
import Derived.Below
import Derived.Deep.Slices
import Derived.DataReads
namespace Go.Proofs.Ytkfpmjepeikpjaa
open Go.ChangeShapes Go.WideShapes Go.ChangeAt Go.RowKit
theorem Try.own : ownKnob Try.prog.godebug = none := by kernel_rfl
theorem Try.laidOut : laidOutB Try.prog = true := by kernel_rfl
theorem Try.cells3o : Try.prog.cellsOf 3 = 1 := by kernel_rfl
theorem Try.cells9o : Try.prog.cellsOf 9 = 1 := by kernel_rfl
theorem Try.cells22o : Try.prog.cellsOf 22 = 1 := by kernel_rfl
theorem Try.cells24o : Try.prog.cellsOf 24 = 4 := by kernel_rfl
theorem Try.cells32o : Try.prog.cellsOf 32 = 5 := by kernel_rfl
theorem Try.cells34o : Try.prog.cellsOf 34 = 8 := by kernel_rfl
theorem slice_form {P : Program} {W : World} {base : Nat} {t e : TypeId} (ht : P.underlying t = some (.slice e)) {v u : Value} (hv : Value.okWide P W .any base t v) (hc : v.cells.toList = [u]) : v = u := by
  cases v <;> first | (simp [Value.cells] at hc; exact hc) | (simp [Value.okWide, Cell.okWide, Cell.ok, ht] at hv; done)
/-- A slice that comes in: its cells, element by element. -/
theorem open_slc {H : Type} {enc : TypeId × Value → H} {P : Program} {W : World} {base : Nat} {t e : TypeId} (ht : P.underlying t = some (.slice e)) {v : Value} {d : DataW H} {p : List MemPlace} (hv : Value.okWide P W .any base t v)
    (h : DataW.Trod enc P W 0 (fun _ => true) true t v d p) : ∃ (a : Option Addr) (n cap : Nat), v = .slice a n cap ∧ n ≤ cap ∧ n ≤ maxLen ∧ (n = 0 ∨ ∃ (a' : Addr) (m : Nat) (D : Nat → DataW H) (Pl : Nat → List MemPlace), a = some a' ∧ ∀ i, i < n → ∃ cs', W.cells? 0 (a'.add (i * P.cellsOf e)) (P.cellsOf e) = some cs' ∧ DataW.trod enc P W 0 (fun _ => true) true m e cs' = some (D i, Pl i)) := by
  obtain ⟨fuel, hf⟩ := h
  rcases Go.Deep.open_slice ht hf with ⟨h1, _⟩ | ⟨a', len, cap, m, k, D, Pl, h1, _, hlc, hcm, hm, _, hel⟩
  · exact ⟨none, 0, 0, slice_form ht hv h1, Nat.le_refl _, Nat.zero_le _, .inl rfl⟩
  · refine ⟨some a', len, cap, slice_form ht hv h1, hlc, Nat.le_trans hlc hcm, .inr ⟨a', k, D, Pl, rfl, fun i hi => hel i (by rw [hm]; simp; omega)⟩⟩
theorem cell_nospot {W : World} {a : Addr} {v : Value} (h : W.cell? a = some v) : a.spot = none := by
  unfold World.cell? at h
  split at h
  · split at h
    · cases h
    · rename_i h2
      cases hs : a.spot with
      | none => rfl
      | some _ => rw [hs] at h2; simp at h2
  · cases h
theorem addr_add {a : Addr} (h : a.spot = none) (k : Nat) : a.add k = ⟨a.block, a.off + k, none⟩ := by
  unfold Addr.add
  by_cases e : k = 0
  · subst e; rw [if_pos rfl]; cases a; cases h; rfl
  · rw [if_neg e]
theorem array4 {α : Type} {cs : Array α} (h : cs.size = 4) : ∃ c0 c1 c2 c3, cs = #[c0, c1, c2, c3] := by
  obtain ⟨l⟩ := cs
  match l, h with
  | [c0, c1, c2, c3], _ => exact ⟨c0, c1, c2, c3, rfl⟩
theorem array8 {α : Type} {cs : Array α} (h : cs.size = 8) : ∃ c0 c1 c2 c3 c4 c5 c6 c7, cs = #[c0, c1, c2, c3, c4, c5, c6, c7] := by
 obtain ⟨l⟩ := cs
 match l, h with
 | [c0, c1, c2, c3, c4, c5, c6, c7], _ => exact ⟨c0, c1, c2, c3, c4, c5, c6, c7, rfl⟩
section
variable {H : Type} {enc : TypeId × Value → H} {P : Program} {w : World} {base : Nat} {spare : Nat → Bool} {held : Bool}
theorem trod_four {t : TypeId} {f0 f1 f2 f3 : Field} {fuel : Nat} {cs : List Value} {x : DataW H × List MemPlace} (ht : P.underlying t = some (.struct #[f0, f1, f2, f3])) (h : DataW.trod enc P w base spare held fuel t cs = some x) :
    ∃ y0 y1 y2 y3 n, DataW.trod enc P w base spare held n f0.type ((cs.drop f0.offset).take (P.cellsOf f0.type)) = some y0 ∧ DataW.trod enc P w base spare held n f1.type ((cs.drop f1.offset).take (P.cellsOf f1.type)) = some y1 ∧
      DataW.trod enc P w base spare held n f2.type ((cs.drop f2.offset).take (P.cellsOf f2.type)) = some y2 ∧ DataW.trod enc P w base spare held n f3.type ((cs.drop f3.offset).take (P.cellsOf f3.type)) = some y3 := by
  obtain ⟨xs, n, _, rfl, hl, hlen, hf⟩ := DataW.trod_struct ht h
  match xs, hlen with
  | [y0, y1, y2, y3], _ => exact ⟨y0, y1, y2, y3, n, by simpa using hf 0 f0 rfl, by simpa using hf 1 f1 rfl, by simpa using hf 2 f2 rfl, by simpa using hf 3 f3 rfl⟩
theorem trod_five {t : TypeId} {f0 f1 f2 f3 f4 : Field} {fuel : Nat} {cs : List Value} {x : DataW H × List MemPlace} (ht : P.underlying t = some (.struct #[f0, f1, f2, f3, f4])) (h : DataW.trod enc P w base spare held fuel t cs = some x) :
    ∃ y0 y1 y2 y3 y4 n, DataW.trod enc P w base spare held n f0.type ((cs.drop f0.offset).take (P.cellsOf f0.type)) = some y0 ∧ DataW.trod enc P w base spare held n f1.type ((cs.drop f1.offset).take (P.cellsOf f1.type)) = some y1 ∧
      DataW.trod enc P w base spare held n f2.type ((cs.drop f2.offset).take (P.cellsOf f2.type)) = some y2 ∧ DataW.trod enc P w base spare held n f3.type ((cs.drop f3.offset).take (P.cellsOf f3.type)) = some y3 ∧
      DataW.trod enc P w base spare held n f4.type ((cs.drop f4.offset).take (P.cellsOf f4.type)) = some y4 := by
  obtain ⟨xs, n, _, rfl, hl, hlen, hf⟩ := DataW.trod_struct ht h
  match xs, hlen with
  | [y0, y1, y2, y3, y4], _ => exact ⟨y0, y1, y2, y3, y4, n, by simpa using hf 0 f0 rfl, by simpa using hf 1 f1 rfl, by simpa using hf 2 f2 rfl, by simpa using hf 3 f3 rfl, by simpa using hf 4 f4 rfl⟩
end
/-- A word's cells. -/
theorem word_cells {H : Type} {enc : TypeId × Value → H} {W : World} {m : Nat} {c0 c1 c2 c3 c4 : Value} {x : DataW H × List MemPlace} (h : DataW.trod enc Try.prog W 0 (fun _ => true) true m 32 [c0, c1, c2, c3, c4] = some x) :
  ∃ z : Vt, (c0 = .int .i64 z.kd ∧ c1 = .int .i64 z.fr ∧ c2 = .int .i64 z.rd ∧ c3 = .int .i64 z.va ∧ c4 = .string z.vl) ∧ (Lit.int .i64 z.kd).wf = true ∧ (Lit.int .i64 z.rd).wf = true := by
 obtain ⟨y0, y1, y2, y3, y4, m, t0, t1, t2, t3, t4⟩ := trod_five Try.underlying32 h
 obtain ⟨x0, e0, _, w0⟩ := DataW.trod_int Try.underlying3 t0
 obtain ⟨x1, e1, _, _⟩ := DataW.trod_int Try.underlying3 t1
 obtain ⟨x2, e2, _, w2⟩ := DataW.trod_int Try.underlying3 t2
 obtain ⟨x3, e3, _, _⟩ := DataW.trod_int Try.underlying3 t3
 obtain ⟨x4, e4, _, _⟩ := DataW.trod_string Try.underlying9 t4
 simp [Try.cells3o, Try.cells9o] at e0 e1 e2 e3 e4
 exact ⟨⟨x0, x1, x2, x3, x4⟩, ⟨e0, e1, e2, e3, e4⟩, w0, w2⟩
/-- A deed's cells. -/
theorem deed_cells {H : Type} {enc : TypeId × Value → H} {W : World} {m : Nat} {c0 c1 c2 c3 c4 c5 c6 c7 : Value} {x : DataW H × List MemPlace} (h : DataW.trod enc Try.prog W 0 (fun _ => true) true m 34 [c0, c1, c2, c3, c4, c5, c6, c7] = some x) :
  ∃ d : Dd, (c0 = .int .i64 d.kd ∧ c1 = .int .i64 d.nd ∧ c2 = .int .i64 d.at' ∧ c3 = .int .i64 d.wd.kd ∧ c4 = .int .i64 d.wd.fr ∧ c5 = .int .i64 d.wd.rd ∧ c6 = .int .i64 d.wd.va ∧ c7 = .string d.wd.vl) ∧ (Lit.int .i64 d.wd.rd).wf = true := by
 obtain ⟨y0, y1, y2, y3, m, t0, t1, t2, t3⟩ := trod_four Try.underlying34 h
 obtain ⟨x0, e0, _, _⟩ := DataW.trod_int Try.underlying3 t0
 obtain ⟨x1, e1, _, _⟩ := DataW.trod_int Try.underlying3 t1
 obtain ⟨x2, e2, _, _⟩ := DataW.trod_int Try.underlying3 t2
 simp [Try.cells3o] at e0 e1 e2
 simp [Try.cells32o] at t3
 obtain ⟨z, ⟨rfl, rfl, rfl, rfl, rfl⟩, _, h2⟩ := word_cells t3
 exact ⟨⟨x0, x1, x2, z⟩, ⟨e0, e1, e2, rfl, rfl, rfl, rfl, rfl⟩, h2⟩
set_option maxRecDepth 10000 in
/-- A deed. -/
theorem open_deed {H : Type} {enc : TypeId × Value → H} {W : World} {base : Nat} {v : Value} {d : DataW H} {p : List MemPlace} (hv : Value.okWide Try.prog W .any base 34 v)
  (h : DataW.Trod enc Try.prog W 0 (fun _ => true) true 34 v d p) : ∃ z : Dd, v = dv z := by
 obtain ⟨cs, rfl, hsz, _⟩ : ∃ cs, v = .agg cs ∧ cs.size = Try.prog.cellsOf 34 ∧ Row.okWide Try.prog W .any base 34 cs := by
  simpa [Value.okWide, Try.underlying34] using hv
 rw [Try.cells34o] at hsz
 obtain ⟨c0, c1, c2, c3, c4, c5, c6, c7, rfl⟩ := array8 hsz
 obtain ⟨fuel, hf⟩ := h
 obtain ⟨z, ⟨rfl, rfl, rfl, rfl, rfl, rfl, rfl, rfl⟩, _⟩ := deed_cells hf
 exact ⟨z, rfl⟩
theorem list_of {α : Type} (n : Nat) (x : Nat → α) : ((List.range n).map x).length = n ∧ ∀ j y, ((List.range n).map x)[j]? = some y → j < n ∧ x j = y := by
 refine ⟨by simp, fun j y h => ?_⟩
 have hj : j < n := by have := (List.getElem?_eq_some_iff.1 h).1; simpa using this
 simp [hj] at h
 exact ⟨hj, h⟩
set_option maxRecDepth 10000 in
/-- A slice of deeds. -/
theorem open_deeds {H : Type} {enc : TypeId × Value → H} {W : World} {base : Nat} {v : Value} {d : DataW H} {p : List MemPlace} (hv : Value.okWide Try.prog W .any base 25 v)
  (h : DataW.Trod enc Try.prog W 0 (fun _ => true) true 25 v d p) : ∃ (a : Option Addr) (ds : List Dd) (c : Nat), v = .slice a ds.length c ∧ DsIs W a ds ∧ ∀ d ∈ ds, (Lit.int .i64 d.wd.rd).wf = true := by
 obtain ⟨a, n, cap, rfl, hcap, hn, h0 | ⟨a', m, D, Pl, rfl, hel⟩⟩ := open_slc Try.underlying25 hv h
 · subst h0
   exact ⟨a, [], cap, rfl, fun j d q => by simp at q, fun m q => by cases q⟩
 · have key : ∀ i, i < n → ∃ z : Dd, (W.cell? ((a'.add (i * 8)).add 0) = some (.int .i64 z.kd) ∧ W.cell? ((a'.add (i * 8)).add 1) = some (.int .i64 z.nd) ∧ W.cell? ((a'.add (i * 8)).add 2) = some (.int .i64 z.at') ∧ W.cell? ((a'.add (i * 8)).add 3) = some (.int .i64 z.wd.kd) ∧ W.cell? ((a'.add (i * 8)).add 4) = some (.int .i64 z.wd.fr) ∧ W.cell? ((a'.add (i * 8)).add 5) = some (.int .i64 z.wd.rd) ∧ W.cell? ((a'.add (i * 8)).add 6) = some (.int .i64 z.wd.va) ∧ W.cell? ((a'.add (i * 8)).add 7) = some (.string z.wd.vl)) ∧ (Lit.int .i64 z.wd.rd).wf = true := by
    intro i hi
    obtain ⟨cs, hcs, htr⟩ := hel i hi
    rw [Try.cells34o] at hcs
    obtain ⟨_, hl, hc⟩ := World.cells?_some hcs
    match cs, hl with
    | [c0, c1, c2, c3, c4, c5, c6, c7], _ =>
     obtain ⟨z, ⟨rfl, rfl, rfl, rfl, rfl, rfl, rfl, rfl⟩, h1⟩ := deed_cells htr
     exact ⟨z, ⟨hc 0 (by omega), hc 1 (by omega), hc 2 (by omega), hc 3 (by omega), hc 4 (by omega), hc 5 (by omega), hc 6 (by omega), hc 7 (by omega)⟩, h1⟩
   have : Inhabited Dd := ⟨⟨0, 0, 0, ⟨0, 0, 0, 0, ⟨#[]⟩⟩⟩⟩
   obtain ⟨x, hx⟩ := Go.Deep.choose_lt key
   obtain ⟨l1, l2⟩ := list_of n x
   refine ⟨some a', (List.range n).map x, cap, by rw [l1], fun j y hj => ?_, fun m hm => ?_⟩
   · obtain ⟨hjn, rfl⟩ := l2 j y hj
     have hc0 := (hx 0 (by omega)).1.1
     have e0 : (a'.add (0 * 8)).add 0 = a' := by unfold Addr.add; simp
     rw [e0] at hc0
     have hs := cell_nospot hc0
     obtain ⟨⟨q0, q1, q2, q3, q4, q5, q6, q7⟩, _⟩ := hx j hjn
     rw [addr_add hs, addr_add rfl] at q0 q1 q2 q3 q4 q5 q6 q7
     exact ⟨a'.block, a'.off, by cases a'; cases hs; rfl, World.block_lt_of_cell? W a' hc0, q0, q1, q2, q3, q4, q5, q6, q7⟩
   · obtain ⟨i, hi, rfl⟩ := List.mem_map.1 hm
     exact (hx i (List.mem_range.1 hi)).2
set_option maxRecDepth 10000 in
/-- A world. -/
theorem open_world {H : Type} {enc : TypeId × Value → H} {W : World} {base : Nat} {v : Value} {d : DataW H} {p : List MemPlace} (hv : Value.okWide Try.prog W .any base 24 v)
  (h : DataW.Trod enc Try.prog W 0 (fun _ => true) true 24 v d p) : ∃ (n t ht : Int) (a : Option Addr) (vals : List ByteArray) (c : Nat), v = wvC n t ht a vals.length c ∧ (Lit.int .i64 n).wf = true ∧ (Lit.int .i64 t).wf = true ∧ VsIs W a vals := by
 obtain ⟨cs, rfl, hsz, _⟩ : ∃ cs, v = .agg cs ∧ cs.size = Try.prog.cellsOf 24 ∧ Row.okWide Try.prog W .any base 24 cs := by
  simpa [Value.okWide, Try.underlying24] using hv
 rw [Try.cells24o] at hsz
 obtain ⟨c0, c1, c2, c3, rfl⟩ := array4 hsz
 obtain ⟨fuel, hf⟩ := h
 obtain ⟨y0, y1, y2, y3, m, t0, t1, t2, t3⟩ := trod_four Try.underlying24 hf
 obtain ⟨n, e0, _, w0⟩ := DataW.trod_int Try.underlying3 t0
 obtain ⟨t, e1, _, w1⟩ := DataW.trod_int Try.underlying3 t1
 obtain ⟨ht, e2, _, _⟩ := DataW.trod_int Try.underlying3 t2
 simp [Try.cells3o, Value.cells] at e0 e1 e2
 subst e0 e1 e2
 simp [Try.cells22o, Value.cells] at t3
 rcases Go.Deep.open_slice Try.underlying22 t3 with ⟨h1, _⟩ | ⟨a', len, cap, m, k, D, Pl, h1, _, hlc, hcm, hm, _, hel⟩
 · injection h1 with h1 _
   subst h1
   exact ⟨n, t, ht, none, [], 0, rfl, w0, w1, fun j B q => by simp at q⟩
 · injection h1 with h1 _
   subst h1
   have key : ∀ i, i < len → ∃ x : ByteArray, W.cell? ((a'.add (i * 1)).add 0) = some (.string x) := by
    intro i hi
    obtain ⟨cs, hcs, htr⟩ := hel i (by rw [hm]; simp; omega)
    rw [Try.cells9o] at hcs
    obtain ⟨_, hl, hc⟩ := World.cells?_some hcs
    match cs, hl with
    | [c0], _ =>
     obtain ⟨x0, e0, _, _⟩ := DataW.trod_string Try.underlying9 htr
     simp at e0
     subst e0
     exact ⟨x0, hc 0 (by omega)⟩
   obtain ⟨x, hx⟩ := Go.Deep.choose_lt key
   obtain ⟨l1, l2⟩ := list_of len x
   refine ⟨n, t, ht, some a', (List.range len).map x, cap, by rw [l1], w0, w1, fun j y hj => ?_⟩
   obtain ⟨hjn, rfl⟩ := l2 j y hj
   have hc0 := hx 0 (by omega)
   have e0 : (a'.add (0 * 1)).add 0 = a' := by unfold Addr.add; simp
   rw [e0] at hc0
   have hs := cell_nospot hc0
   have q0 := hx j hjn
   rw [addr_add hs, addr_add rfl] at q0
   refine ⟨a'.block, a'.off, by cases a'; cases hs; rfl, World.block_lt_of_cell? W a' hc0, ?_⟩
   rw [show a'.off + j = a'.off + j * 1 + 0 from by omega]
   exact q0
end Go.Proofs.Ytkfpmjepeikpjaa
