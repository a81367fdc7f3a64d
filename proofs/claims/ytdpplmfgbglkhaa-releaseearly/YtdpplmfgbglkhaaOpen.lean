/-
  How what comes in is read: a pair of numbers, a slice of numbers, a pair of slices.
-/
import Derived.Test.YtdpplmfgbglkhaaGPl
import Derived.Test.YtdpplmfgbglkhaaRows
import Derived.WalkKit
import Derived.ProofKit
import Derived.OpenShut
import Derived.ShutString
import Derived.ChangeOld
import Derived.ChangeSame
import Derived.ChangeArms
import Derived.Below
import Derived.Deep.Slices
import Derived.DataReads
namespace Go.Proofs.Ytdpplmfgbglkhaa
open Go.ChangeShapes Go.WideShapes Go.ChangeAt Go.RowKit
theorem Try.own : ownKnob Try.prog.godebug = none := by kernel_rfl
theorem Try.laidOut : laidOutB Try.prog = true := by kernel_rfl
theorem Try.cells3o : Try.prog.cellsOf 3 = 1 := by kernel_rfl
theorem Try.cells23o : Try.prog.cellsOf 23 = 2 := by kernel_rfl
theorem Try.cells24o : Try.prog.cellsOf 24 = 1 := by kernel_rfl
theorem Try.cells41o : Try.prog.cellsOf 41 = 2 := by kernel_rfl
theorem slice_form {P : Program} {W : World} {base : Nat} {t e : TypeId} (ht : P.underlying t = some (.slice e)) {v u : Value} (hv : Value.okWide P W .any base t v) (hc : v.cells.toList = [u]) : v = u := by
  cases v <;> first | (simp [Value.cells] at hc; exact hc) | (simp [Value.okWide, Cell.okWide, Cell.ok, ht] at hv; done)
theorem cell_nospot {W : World} {a : Addr} {v : Value} (h : W.cell? a = some v) : a.spot = none := by
  unfold World.cell? at h
  split at h
  · split at h
    · cases h
    · rename_i h2
      cases hs : a.spot with
      | none => rfl
      | some _ => rw [hs] at h2; simp at h2
  · cases h
theorem addr_add {a : Addr} (h : a.spot = none) (k : Nat) : a.add k = ⟨a.block, a.off + k, none⟩ := by
  unfold Addr.add
  by_cases e : k = 0
  · subst e; rw [if_pos rfl]; cases a; cases h; rfl
  · rw [if_neg e]
theorem array2 {α : Type} {cs : Array α} (h : cs.size = 2) : ∃ c0 c1, cs = #[c0, c1] := by
  obtain ⟨l⟩ := cs
  match l, h with
  | [c0, c1], _ => exact ⟨c0, c1, rfl⟩
section
variable {H : Type} {enc : TypeId × Value → H} {P : Program} {w : World} {base : Nat} {spare : Nat → Bool} {held : Bool}
theorem trod_two {t : TypeId} {f0 f1 : Field} {fuel : Nat} {cs : List Value} {x : DataW H × List MemPlace} (ht : P.underlying t = some (.struct #[f0, f1])) (h : DataW.trod enc P w base spare held fuel t cs = some x) :
    ∃ y0 y1 n, DataW.trod enc P w base spare held n f0.type ((cs.drop f0.offset).take (P.cellsOf f0.type)) = some y0 ∧ DataW.trod enc P w base spare held n f1.type ((cs.drop f1.offset).take (P.cellsOf f1.type)) = some y1 := by
  obtain ⟨xs, n, _, rfl, hl, hlen, hf⟩ := DataW.trod_struct ht h
  match xs, hlen with
  | [y0, y1], _ => exact ⟨y0, y1, n, by simpa using hf 0 f0 rfl, by simpa using hf 1 f1 rfl⟩
theorem trod_array2 {t e : TypeId} {fuel : Nat} {c0 c1 : Value} {x : DataW H × List MemPlace} (ht : P.underlying t = some (.array 2 e)) (hce : P.cellsOf e = 1)
    (h : DataW.trod enc P w base spare held fuel t [c0, c1] = some x) :
    ∃ y0 y1 n, x = (.agg [y0.1, y1.1], y0.2 ++ y1.2) ∧ DataW.trod enc P w base spare held n e [c0] = some y0 ∧ DataW.trod enc P w base spare held n e [c1] = some y1 := by
  cases fuel with
  | zero => simp [DataW.trod] at h
  | succ n =>
    unfold DataW.trod at h
    rw [ht] at h
    have r2 : List.range 2 = [0, 1] := rfl
    simp [r2, hce] at h
    obtain ⟨_, h⟩ := h
    cases h0 : DataW.trod enc P w base spare held n e [c0] with
    | none => simp [h0] at h
    | some y0 =>
      cases h1 : DataW.trod enc P w base spare held n e [c1] with
      | none => simp [h0, h1] at h
      | some y1 =>
        simp [h0, h1] at h
        exact ⟨y0, y1, n, h.symm, h0, h1⟩
end
theorem made_cells {H : Type} {enc : TypeId × Value → H} {W : World} {m : Nat} {c0 c1 : Value} {x : DataW H × List MemPlace} (h : DataW.trod enc Try.prog W 0 (fun _ => true) true m 23 [c0, c1] = some x) : ∃ b e : Int, c0 = .int .i64 b ∧ c1 = .int .i64 e := by
  obtain ⟨y0, y1, m, t0, t1⟩ := trod_two Try.underlying23 h
  obtain ⟨x0, e0, _, _⟩ := DataW.trod_int Try.underlying3 t0
  obtain ⟨x1, e1, _, _⟩ := DataW.trod_int Try.underlying3 t1
  simp [Try.cells3o] at e0 e1
  exact ⟨x0, x1, e0, e1⟩
set_option maxRecDepth 10000 in
/-- A pair of numbers. -/
theorem open_made {H : Type} {enc : TypeId × Value → H} {W : World} {base : Nat} {v : Value} {d : DataW H} {p : List MemPlace} (hv : Value.okWide Try.prog W .any base 23 v)
    (h : DataW.Trod enc Try.prog W 0 (fun _ => true) true 23 v d p) : ∃ (b e : Int), v = .agg #[.int .i64 b, .int .i64 e] := by
  obtain ⟨cs, rfl, hsz, _⟩ : ∃ cs, v = .agg cs ∧ cs.size = Try.prog.cellsOf 23 ∧ Row.okWide Try.prog W .any base 23 cs := by
    simpa [Value.okWide, Try.underlying23] using hv
  rw [Try.cells23o] at hsz
  obtain ⟨c0, c1, rfl⟩ := array2 hsz
  obtain ⟨fuel, hf⟩ := h
  obtain ⟨b, e, rfl, rfl⟩ := made_cells hf
  exact ⟨b, e, rfl⟩
/-- A slice of numbers, by its one cell. -/
theorem ints_cell {H : Type} {enc : TypeId × Value → H} {W : World} {m : Nat} {cs : List Value} {x : DataW H × List MemPlace} (h : DataW.trod enc Try.prog W 0 (fun _ => true) true m 24 cs = some x) :
    ∃ (c : Value) (n : Nat) (f : Nat → Int), cs = [c] ∧ IntsIs W c n f := by
  rcases Go.Deep.open_slice1 Try.underlying24 Try.cells3o h with ⟨h1, _⟩ | ⟨a', len, cap, m, k, V, D, Pl, h1, _, hlc, hcm, hm, _, hel⟩
  · exact ⟨_, 0, fun _ => 0, h1, ⟨none, 0, rfl, fun j hj => absurd hj (Nat.not_lt_zero j)⟩⟩
  · have key : ∀ i, i < len → ∃ y : Int, W.cell? (a'.add i) = some (.int .i64 y) := by
      intro i hi
      obtain ⟨hc, ht⟩ := hel i (by rw [hm]; simp; omega)
      obtain ⟨y, e, _, _⟩ := DataW.trod_int Try.underlying3 ht
      simp at e
      exact ⟨y, by rw [hc, e]⟩
    obtain ⟨y, hy⟩ := Go.Deep.choose_lt key
    refine ⟨_, len, y, h1, ⟨some a', cap, rfl, fun j hj => ?_⟩⟩
    have h0 := hy 0 (by omega)
    have e0 : a'.add 0 = a' := by unfold Addr.add; simp
    rw [e0] at h0
    have hs := cell_nospot h0
    have hc := hy j hj
    rw [addr_add hs] at hc
    exact ⟨a'.block, a'.off, by cases a'; cases hs; rfl, World.block_lt_of_cell? W a' h0, hc⟩
set_option maxRecDepth 10000 in
/-- A slice of numbers. -/
theorem open_ints {H : Type} {enc : TypeId × Value → H} {W : World} {base : Nat} {v : Value} {d : DataW H} {p : List MemPlace} (hv : Value.okWide Try.prog W .any base 24 v)
    (h : DataW.Trod enc Try.prog W 0 (fun _ => true) true 24 v d p) : ∃ (n : Nat) (f : Nat → Int), IntsIs W v n f := by
  obtain ⟨fuel, hf⟩ := h
  obtain ⟨c, n, f, hc, hi⟩ := ints_cell hf
  obtain rfl := slice_form Try.underlying24 hv hc
  exact ⟨n, f, hi⟩
set_option maxRecDepth 10000 in
/-- A pair of slices of numbers. -/
theorem open_two {H : Type} {enc : TypeId × Value → H} {W : World} {base : Nat} {v : Value} {d : DataW H} {p : List MemPlace} (hv : Value.okWide Try.prog W .any base 41 v)
    (h : DataW.Trod enc Try.prog W 0 (fun _ => true) true 41 v d p) : ∃ (va vb : Value) (na nb : Nat) (fa fb : Nat → Int), v = .agg #[va, vb] ∧ IntsIs W va na fa ∧ IntsIs W vb nb fb := by
  obtain ⟨cs, rfl, hsz, _⟩ : ∃ cs, v = .agg cs ∧ cs.size = Try.prog.cellsOf 41 ∧ Row.okWide Try.prog W .any base 41 cs := by
    simpa [Value.okWide, Try.underlying41] using hv
  rw [Try.cells41o] at hsz
  obtain ⟨c0, c1, rfl⟩ := array2 hsz
  obtain ⟨fuel, hf⟩ := h
  obtain ⟨y0, y1, m, _, t0, t1⟩ := trod_array2 (c0 := c0) (c1 := c1) Try.underlying41 Try.cells24o hf
  obtain ⟨c, n, f, hc, hi⟩ := ints_cell t0
  obtain ⟨c', n', f', hc', hi'⟩ := ints_cell t1
  injection hc with hc
  injection hc' with hc'
  subst hc hc'
  exact ⟨_, _, n, n', f, f', rfl, hi, hi'⟩
end Go.Proofs.Ytdpplmfgbglkhaa
