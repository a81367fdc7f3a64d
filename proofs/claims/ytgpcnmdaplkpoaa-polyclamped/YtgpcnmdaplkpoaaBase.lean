/-
  Words for all walks: what a call leaves ('Ext'), arrays' cells as functions, four words in a block. No function of the program is named here.
-/
import Derived.Test.YtgpcnmdaplkpoaaEx
import Derived.Test.YtgpcnmdaplkpoaaMath
import Derived.WalkKit
import Derived.WalkSpells
import Derived.WalkLawsBesides
namespace Go.Proofs.Ytgpcnmdaplkpoaa
open Go.RowKit
/-- Word number i of four. -/
def wd (a0 a1 a2 a3 : Int) (i : Nat) : Int := if i = 0 then a0 else if i = 1 then a1 else if i = 2 then a2 else a3
theorem wd_get (a0 a1 a2 a3 : Int) (i : Nat) (h : i < 4) : [Value.int .u64 a0, .int .u64 a1, .int .u64 a2, .int .u64 a3][i]? = some (.int .u64 (wd a0 a1 a2 a3 i)) := by
  have : i = 0 ∨ i = 1 ∨ i = 2 ∨ i = 3 := by omega
  rcases this with rfl | rfl | rfl | rfl <;> rfl
theorem wd_lim {a0 a1 a2 a3 : Int} (h : Lim4 a0 a1 a2 a3) (i : Nat) : Lim (wd a0 a1 a2 a3 i) := by
  obtain ⟨h0, h1, h2, h3⟩ := h
  unfold wd
  split
  · exact h0
  · split
    · exact h1
    · split
      · exact h2
      · exact h3
/-- Four words as an array's cells. -/
def fa (W : Nat → Int) : Array Value := #[.int .u64 (W 0), .int .u64 (W 1), .int .u64 (W 2), .int .u64 (W 3)]
theorem fa_get (W : Nat → Int) (j : Nat) (h : j < 4) : (fa W)[j]? = some (.int .u64 (W j)) := by
  have : j = 0 ∨ j = 1 ∨ j = 2 ∨ j = 3 := by omega
  rcases this with rfl | rfl | rfl | rfl <;> rfl
theorem fa_set (W : Nat → Int) (j : Nat) (h : j < 4) (v : Int) : (fa W).setIfInBounds j (.int .u64 v) = fa (fun i => if i = j then v else W i) := by
  have : j = 0 ∨ j = 1 ∨ j = 2 ∨ j = 3 := by omega
  rcases this with rfl | rfl | rfl | rfl <;> simp [fa]
/-- Eight words as an array's cells. -/
def f8 (P : Nat → Int) : Array Value := #[.int .u64 (P 0), .int .u64 (P 1), .int .u64 (P 2), .int .u64 (P 3), .int .u64 (P 4), .int .u64 (P 5), .int .u64 (P 6), .int .u64 (P 7)]
theorem f8_get (P : Nat → Int) (j : Nat) (h : j < 8) : (f8 P)[j]? = some (.int .u64 (P j)) := by
  have : j = 0 ∨ j = 1 ∨ j = 2 ∨ j = 3 ∨ j = 4 ∨ j = 5 ∨ j = 6 ∨ j = 7 := by omega
  rcases this with rfl | rfl | rfl | rfl | rfl | rfl | rfl | rfl <;> rfl
theorem f8_set (P : Nat → Int) (j : Nat) (h : j < 8) (v : Int) : (f8 P).setIfInBounds j (.int .u64 v) = f8 (fun i => if i = j then v else P i) := by
  have : j = 0 ∨ j = 1 ∨ j = 2 ∨ j = 3 ∨ j = 4 ∨ j = 5 ∨ j = 6 ∨ j = 7 := by omega
  rcases this with rfl | rfl | rfl | rfl | rfl | rfl | rfl | rfl <;> simp [f8]
theorem lim_of (x : Int) (h : decide (0 ≤ x ∧ x < 18446744073709551616) = true) : Lim x := by
  unfold Lim
  exact of_decide_eq_true h
theorem row_new (w : World) (x0 x1 x2 x3 : Value) (t : TypeId) : (w.alloc (.cells #[x0, x1, x2, x3] t)).cell? ⟨w.heap.size, 0, none⟩ = some x0 ∧ (w.alloc (.cells #[x0, x1, x2, x3] t)).cell? ⟨w.heap.size, 1, none⟩ = some x1 ∧ (w.alloc (.cells #[x0, x1, x2, x3] t)).cell? ⟨w.heap.size, 2, none⟩ = some x2 ∧ (w.alloc (.cells #[x0, x1, x2, x3] t)).cell? ⟨w.heap.size, 3, none⟩ = some x3 := by
  refine ⟨?_, ?_, ?_, ?_⟩ <;> (rw [World.cell?_alloc_at _ _ _ _ rfl]; rfl)
/-- Four words in block b, from its first cell on. -/
def Row (w : World) (b : Nat) (x0 x1 x2 x3 : Int) : Prop := b < w.heap.size ∧ w.cell? ⟨b, 0, none⟩ = some (.int .u64 x0) ∧ w.cell? ⟨b, 1, none⟩ = some (.int .u64 x1) ∧ w.cell? ⟨b, 2, none⟩ = some (.int .u64 x2) ∧ w.cell? ⟨b, 3, none⟩ = some (.int .u64 x3)
theorem Row.new (w : World) (x0 x1 x2 x3 : Int) : Row (w.alloc (.cells #[.int .u64 x0, .int .u64 x1, .int .u64 x2, .int .u64 x3] 48)) w.heap.size x0 x1 x2 x3 :=
  ⟨by simp, row_new w _ _ _ _ 48⟩
theorem Row.ext {w w' : World} {b : Nat} {x0 x1 x2 x3 : Int} (h : Row w b x0 x1 x2 x3) (hx : Ext w w') : Row w' b x0 x1 x2 x3 :=
  ⟨Nat.lt_of_lt_of_le h.1 hx.size, later hx h.2.1, later hx h.2.2.1, later hx h.2.2.2.1, later hx h.2.2.2.2⟩
theorem Row.two (w : World) (x0 x1 x2 x3 y0 y1 y2 y3 : Int) :
    Row ((w.alloc (.cells #[.int .u64 x0, .int .u64 x1, .int .u64 x2, .int .u64 x3] 48)).alloc (.cells #[.int .u64 y0, .int .u64 y1, .int .u64 y2, .int .u64 y3] 48)) w.heap.size x0 x1 x2 x3 ∧
    Row ((w.alloc (.cells #[.int .u64 x0, .int .u64 x1, .int .u64 x2, .int .u64 x3] 48)).alloc (.cells #[.int .u64 y0, .int .u64 y1, .int .u64 y2, .int .u64 y3] 48)) (w.heap.size + 1) y0 y1 y2 y3 := by
  refine ⟨(Row.new w x0 x1 x2 x3).ext ((Ext.refl _).alloc _), ?_⟩
  have := Row.new (w.alloc (.cells #[.int .u64 x0, .int .u64 x1, .int .u64 x2, .int .u64 x3] 48)) y0 y1 y2 y3
  rwa [show (w.alloc (.cells #[.int .u64 x0, .int .u64 x1, .int .u64 x2, .int .u64 x3] 48)).heap.size = w.heap.size + 1 from by simp] at this
end Go.Proofs.Ytgpcnmdaplkpoaa
