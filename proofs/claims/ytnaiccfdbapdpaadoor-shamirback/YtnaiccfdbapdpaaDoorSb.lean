/-
  Eight words in a block, which may be written: copied into, cleared, kept. No function of the program is named here.
-/
import Derived.Test.YtnaiccfdbapdpaaDoorSa
import Derived.Lib.SliceRun
import Derived.Laws.IdiomCopy
namespace Go.Proofs.YtnaiccfdbapdpaaDoor
open Go.RowKit
/-- Eight words in block b, which may be written. -/
def Eight (w : World) (b : Nat) (r0 r1 r2 r3 r4 r5 r6 r7 : Int) : Prop := b < w.heap.size ∧ (w.cell? ⟨b, 0, none⟩ = some (.int .u64 r0) ∧ w.cell? ⟨b, 1, none⟩ = some (.int .u64 r1) ∧ w.cell? ⟨b, 2, none⟩ = some (.int .u64 r2) ∧ w.cell? ⟨b, 3, none⟩ = some (.int .u64 r3) ∧ w.cell? ⟨b, 4, none⟩ = some (.int .u64 r4) ∧ w.cell? ⟨b, 5, none⟩ = some (.int .u64 r5) ∧ w.cell? ⟨b, 6, none⟩ = some (.int .u64 r6) ∧ w.cell? ⟨b, 7, none⟩ = some (.int .u64 r7)) ∧ (w.frozen? ⟨b, 0, none⟩ = false ∧ w.frozen? ⟨b, 1, none⟩ = false ∧ w.frozen? ⟨b, 2, none⟩ = false ∧ w.frozen? ⟨b, 3, none⟩ = false ∧ w.frozen? ⟨b, 4, none⟩ = false ∧ w.frozen? ⟨b, 5, none⟩ = false ∧ w.frozen? ⟨b, 6, none⟩ = false ∧ w.frozen? ⟨b, 7, none⟩ = false)
theorem Eight.ext {w w' : World} {b : Nat} {r0 r1 r2 r3 r4 r5 r6 r7 : Int} (h : Eight w b r0 r1 r2 r3 r4 r5 r6 r7) (hx : Ext w w') : Eight w' b r0 r1 r2 r3 r4 r5 r6 r7 := by
  obtain ⟨l, ⟨c0, c1, c2, c3, c4, c5, c6, c7⟩, f0, f1, f2, f3, f4, f5, f6, f7⟩ := h
  exact ⟨Nat.lt_of_lt_of_le l hx.size, ⟨later hx c0, later hx c1, later hx c2, later hx c3, later hx c4, later hx c5, later hx c6, later hx c7⟩, (hx.cells.2 b 0 l).trans f0, (hx.cells.2 b 1 l).trans f1, (hx.cells.2 b 2 l).trans f2, (hx.cells.2 b 3 l).trans f3, (hx.cells.2 b 4 l).trans f4, (hx.cells.2 b 5 l).trans f5, (hx.cells.2 b 6 l).trans f6, (hx.cells.2 b 7 l).trans f7⟩
theorem Eight.new (w : World) (t : TypeId) : Eight (w.alloc (.cells #[.int .u64 0, .int .u64 0, .int .u64 0, .int .u64 0, .int .u64 0, .int .u64 0, .int .u64 0, .int .u64 0] t)) w.heap.size 0 0 0 0 0 0 0 0 := by
  refine ⟨by simp, ⟨?_, ?_, ?_, ?_, ?_, ?_, ?_, ?_⟩, ?_, ?_, ?_, ?_, ?_, ?_, ?_, ?_⟩ <;> first | exact World.frozen?_alloc_at _ _ _ _ rfl | (rw [World.cell?_alloc_at _ _ _ _ rfl]; rfl)
theorem setq (w : World) (b i j : Nat) (v : Value) (u : Value) (hu : w.cell? ⟨b, j, none⟩ = some u) : (w.setCell ⟨b, i, none⟩ v).cell? ⟨b, j, none⟩ = some (if i = j then v else u) := by
  by_cases e : i = j
  · subst e
    rw [if_pos rfl]
    exact World.cell?_setCell_same' _ _ _ (by rw [hu]; rfl)
  · rw [if_neg e, World.cell?_setCell_other _ _ _ _ (fun q => e (by injection q))]
    exact hu
theorem Eight.set {w : World} {b : Nat} {r0 r1 r2 r3 r4 r5 r6 r7 : Int} (h : Eight w b r0 r1 r2 r3 r4 r5 r6 r7) (i : Nat) (v : Int) : Eight (w.setCell ⟨b, i, none⟩ (.int .u64 v)) b (if i = 0 then v else r0) (if i = 1 then v else r1) (if i = 2 then v else r2) (if i = 3 then v else r3) (if i = 4 then v else r4) (if i = 5 then v else r5) (if i = 6 then v else r6) (if i = 7 then v else r7) := by
  obtain ⟨l, ⟨c0, c1, c2, c3, c4, c5, c6, c7⟩, f0, f1, f2, f3, f4, f5, f6, f7⟩ := h
  have q : ∀ (j : Nat) (u : Int), w.cell? ⟨b, j, none⟩ = some (.int .u64 u) → (w.setCell ⟨b, i, none⟩ (.int .u64 v)).cell? ⟨b, j, none⟩ = some (.int .u64 (if i = j then v else u)) := fun j u hu => by
    rw [setq w b i j _ _ hu]; split <;> rfl
  exact ⟨by simpa using l, ⟨q 0 _ c0, q 1 _ c1, q 2 _ c2, q 3 _ c3, q 4 _ c4, q 5 _ c5, q 6 _ c6, q 7 _ c7⟩, by simpa using f0, by simpa using f1, by simpa using f2, by simpa using f3, by simpa using f4, by simpa using f5, by simpa using f6, by simpa using f7⟩
theorem Eight.other {w : World} {b c i : Nat} {r0 r1 r2 r3 r4 r5 r6 r7 : Int} {v : Value} (hne : c ≠ b) (h : Eight w c r0 r1 r2 r3 r4 r5 r6 r7) : Eight (w.setCell ⟨b, i, none⟩ v) c r0 r1 r2 r3 r4 r5 r6 r7 := by
  obtain ⟨l, ⟨c0, c1, c2, c3, c4, c5, c6, c7⟩, f0, f1, f2, f3, f4, f5, f6, f7⟩ := h
  have q : ∀ (j : Nat) (u : Value), w.cell? ⟨c, j, none⟩ = some u → (w.setCell ⟨b, i, none⟩ v).cell? ⟨c, j, none⟩ = some u := fun j u hu => by
    rw [World.cell?_setCell_far _ _ _ _ (fun q => hne q.symm)]; exact hu
  exact ⟨by simpa using l, ⟨q 0 _ c0, q 1 _ c1, q 2 _ c2, q 3 _ c3, q 4 _ c4, q 5 _ c5, q 6 _ c6, q 7 _ c7⟩, by simpa using f0, by simpa using f1, by simpa using f2, by simpa using f3, by simpa using f4, by simpa using f5, by simpa using f6, by simpa using f7⟩
/-- The number that eight cells hold. -/
def cv8 (w : World) (b : Nat) : Int := v8 (cv w b 0) (cv w b 1) (cv w b 2) (cv w b 3) (cv w b 4) (cv w b 5) (cv w b 6) (cv w b 7)
theorem cv8_row {w : World} {b : Nat} {r0 r1 r2 r3 r4 r5 r6 r7 : Int} (h : Eight w b r0 r1 r2 r3 r4 r5 r6 r7) : cv8 w b = v8 r0 r1 r2 r3 r4 r5 r6 r7 := by
  obtain ⟨_, ⟨c0, c1, c2, c3, c4, c5, c6, c7⟩, _⟩ := h
  simp [cv8, cv, c0, c1, c2, c3, c4, c5, c6, c7]
/-- Four cells of one block are copied to another's. -/
theorem copy4 (P : Program) (w : World) (dT sT ty elem : TypeId) (hu : P.underlying dT = some (.slice elem)) (hs : (P.info? elem).map (·.size) = some 1) (b o n a : Nat) (hn : 4 ≤ n) (v0 v1 v2 v3 : Value)
    (s0 : w.cell? ⟨a, 0, none⟩ = some v0) (s1 : w.cell? ⟨a, 1, none⟩ = some v1) (s2 : w.cell? ⟨a, 2, none⟩ = some v2) (s3 : w.cell? ⟨a, 3, none⟩ = some v3)
    (c0 : (w.cell? ⟨b, o, none⟩).isSome = true) (c1 : (w.cell? ⟨b, o + 1, none⟩).isSome = true) (c2 : (w.cell? ⟨b, o + 2, none⟩).isSome = true) (c3 : (w.cell? ⟨b, o + 3, none⟩).isSome = true)
    (f0 : w.frozen? ⟨b, o, none⟩ = false) (f1 : w.frozen? ⟨b, o + 1, none⟩ = false) (f2 : w.frozen? ⟨b, o + 2, none⟩ = false) (f3 : w.frozen? ⟨b, o + 3, none⟩ = false)
    (h0 : v0.oneCell' = true) (h1 : v1.oneCell' = true) (h2 : v2.oneCell' = true) (h3 : v3.oneCell' = true) :
    (Builtin.copy_ #[dT, sT] ty #[.slice (some ⟨b, o, none⟩) n n, .slice (some ⟨a, 0, none⟩) 4 4]).run P w = .ok (goInt 4) ((((w.setCell ⟨b, o, none⟩ v0).setCell ⟨b, o + 1, none⟩ v1).setCell ⟨b, o + 2, none⟩ v2).setCell ⟨b, o + 3, none⟩ v3) := by
  have four : ∀ j, j < 4 → j = 0 ∨ j = 1 ∨ j = 2 ∨ j = 3 := fun j hj => by omega
  refine run_copy_cells (P := P) w dT sT ty elem b o n n ⟨a, 0, none⟩ 4 4 [v0, v1, v2, v3] hu hs ?_ ?_ ?_ ?_ ?_
  · show 4 = Nat.min 4 n
    exact (Nat.min_eq_left hn).symm
  · intro j v hv
    have hj : j < 4 := by have := (List.getElem?_eq_some_iff.1 hv).1; simpa using this
    rcases four j hj with rfl | rfl | rfl | rfl <;> (simp at hv; subst hv; simpa [Addr.add] using (by assumption))
  · intro j hj
    rcases four j (by simpa using hj) with rfl | rfl | rfl | rfl <;> simpa using (by assumption)
  · intro j hj
    rcases four j (by simpa using hj) with rfl | rfl | rfl | rfl <;> simpa using (by assumption)
  · intro v hv
    simp at hv
    rcases hv with rfl | rfl | rfl | rfl <;> assumption
end Go.Proofs.YtnaiccfdbapdpaaDoor
