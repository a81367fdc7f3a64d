/-
  Words for all walks: what a call leaves ('Ext'), arrays' cells as functions, four words in a block. No function of the program is named here.
  Words for walks that write: rows of four words that may be written, kept over calls and other stores. No function of the program is named here.
-/
import Derived.Test.YtnaiccfdbapdpaaDoorRows
import Derived.Test.YtnaiccfdbapdpaaDoorMaths
import Derived.WalkKit
import Derived.WalkSpells
import Derived.WalkLawsBesides
import Derived.Deep.RegionHeld3
import Derived.Deep.DeepCutAuto
namespace Go.Proofs.YtnaiccfdbapdpaaDoor
open Go.RowKit
theorem setCell_drewN (w : World) (a : Addr) (v : Value) (n : Nat) : (w.drewN n).setCell a v = (w.setCell a v).drewN n := rfl
theorem alloc_drewN (w : World) (o : Obj) (n : Nat) : (w.drewN n).alloc o = (w.alloc o).drewN n := rfl
/-- Whatever lay in the world is as it was; new blocks may lie behind. -/
def Ext (w w' : World) : Prop := Below w.heap.size w w'
theorem Ext.refl (w : World) : Ext w w := Below.refl _ _
theorem Ext.trans {a b c : World} (h : Ext a b) (k : Ext b c) : Ext a c := Below.trans h (Below.mono k h.size)
theorem Ext.alloc {a w : World} (h : Ext a w) (o : Obj) : Ext a (w.alloc o) := Below.alloc h h.size o
theorem Ext.drew {a w : World} (h : Ext a w) : Ext a w.drew := Below.drew h
theorem Ext.drewN {a w : World} (h : Ext a w) (n : Nat) : Ext a (w.drewN n) := below_drewN h n
theorem Ext.size {a w : World} (h : Ext a w) : a.heap.size ≤ w.heap.size := Below.size h
theorem Ext.setCell {a w : World} (h : Ext a w) {p : Addr} (hp : a.heap.size ≤ p.block) (u : Value) : Ext a (w.setCell p u) := Below.setCell h hp u
theorem Ext.cells {W w1 : World} (hb : Ext W w1) : (∀ b o, b < W.heap.size → w1.cell? ⟨b, o, none⟩ = W.cell? ⟨b, o, none⟩) ∧ (∀ b o, b < W.heap.size → w1.frozen? ⟨b, o, none⟩ = W.frozen? ⟨b, o, none⟩) :=
  ⟨fun b o h => Below.cell hb (p := ⟨b, o, none⟩) h, fun b o h => Below.frozen hb (p := ⟨b, o, none⟩) h⟩

/-- Word number i of four. -/
def wd (a0 a1 a2 a3 : Int) (i : Nat) : Int := if i = 0 then a0 else if i = 1 then a1 else if i = 2 then a2 else a3
theorem wd_get (a0 a1 a2 a3 : Int) (i : Nat) (h : i < 4) : [Value.int .u64 a0, .int .u64 a1, .int .u64 a2, .int .u64 a3][i]? = some (.int .u64 (wd a0 a1 a2 a3 i)) := by
  have : i = 0 ∨ i = 1 ∨ i = 2 ∨ i = 3 := by omega
  rcases this with rfl | rfl | rfl | rfl <;> rfl
theorem wd_lim {a0 a1 a2 a3 : Int} (h : Lim4 a0 a1 a2 a3) (i : Nat) : Lim (wd a0 a1 a2 a3 i) := by
  obtain ⟨h0, h1, h2, h3⟩ := h
  unfold wd
  split
  · exact h0
  · split
    · exact h1
    · split
      · exact h2
      · exact h3
theorem get_some {l : List Value} {i : Nat} {v : Value} (h : l[i]? = some v) : l[i]'(List.getElem?_eq_some_iff.1 h).1 = v := (List.getElem?_eq_some_iff.1 h).2
/-- Four words as an array's cells. -/
def fa (W : Nat → Int) : Array Value := #[.int .u64 (W 0), .int .u64 (W 1), .int .u64 (W 2), .int .u64 (W 3)]
theorem fa_get (W : Nat → Int) (j : Nat) (h : j < 4) : (fa W)[j]? = some (.int .u64 (W j)) := by
  have : j = 0 ∨ j = 1 ∨ j = 2 ∨ j = 3 := by omega
  rcases this with rfl | rfl | rfl | rfl <;> rfl
theorem fa_set (W : Nat → Int) (j : Nat) (h : j < 4) (v : Int) : (fa W).setIfInBounds j (.int .u64 v) = fa (fun i => if i = j then v else W i) := by
  have : j = 0 ∨ j = 1 ∨ j = 2 ∨ j = 3 := by omega
  rcases this with rfl | rfl | rfl | rfl <;> simp [fa]
/-- Eight words as an array's cells. -/
def f8 (P : Nat → Int) : Array Value := #[.int .u64 (P 0), .int .u64 (P 1), .int .u64 (P 2), .int .u64 (P 3), .int .u64 (P 4), .int .u64 (P 5), .int .u64 (P 6), .int .u64 (P 7)]
theorem f8_get (P : Nat → Int) (j : Nat) (h : j < 8) : (f8 P)[j]? = some (.int .u64 (P j)) := by
  have : j = 0 ∨ j = 1 ∨ j = 2 ∨ j = 3 ∨ j = 4 ∨ j = 5 ∨ j = 6 ∨ j = 7 := by omega
  rcases this with rfl | rfl | rfl | rfl | rfl | rfl | rfl | rfl <;> rfl
theorem f8_set (P : Nat → Int) (j : Nat) (h : j < 8) (v : Int) : (f8 P).setIfInBounds j (.int .u64 v) = f8 (fun i => if i = j then v else P i) := by
  have : j = 0 ∨ j = 1 ∨ j = 2 ∨ j = 3 ∨ j = 4 ∨ j = 5 ∨ j = 6 ∨ j = 7 := by omega
  rcases this with rfl | rfl | rfl | rfl | rfl | rfl | rfl | rfl <;> simp [f8]
theorem lim_of (x : Int) (h : decide (0 ≤ x ∧ x < 18446744073709551616) = true) : Lim x := by
  unfold Lim
  exact of_decide_eq_true h
theorem later {w wx : World} {a : Addr} {v : Value} (hb : Ext w wx) (h : w.cell? a = some v) : wx.cell? a = some v := cell_later hb h
theorem row_new (w : World) (x0 x1 x2 x3 : Value) (t : TypeId) : (w.alloc (.cells #[x0, x1, x2, x3] t)).cell? ⟨w.heap.size, 0, none⟩ = some x0 ∧ (w.alloc (.cells #[x0, x1, x2, x3] t)).cell? ⟨w.heap.size, 1, none⟩ = some x1 ∧ (w.alloc (.cells #[x0, x1, x2, x3] t)).cell? ⟨w.heap.size, 2, none⟩ = some x2 ∧ (w.alloc (.cells #[x0, x1, x2, x3] t)).cell? ⟨w.heap.size, 3, none⟩ = some x3 := by
  refine ⟨?_, ?_, ?_, ?_⟩ <;> (rw [World.cell?_alloc_at _ _ _ _ rfl]; rfl)
/-- Four words in block b, from its first cell on. -/
def Row (w : World) (b : Nat) (x0 x1 x2 x3 : Int) : Prop := b < w.heap.size ∧ w.cell? ⟨b, 0, none⟩ = some (.int .u64 x0) ∧ w.cell? ⟨b, 1, none⟩ = some (.int .u64 x1) ∧ w.cell? ⟨b, 2, none⟩ = some (.int .u64 x2) ∧ w.cell? ⟨b, 3, none⟩ = some (.int .u64 x3)
theorem Row.new (w : World) (x0 x1 x2 x3 : Int) : Row (w.alloc (.cells #[.int .u64 x0, .int .u64 x1, .int .u64 x2, .int .u64 x3] 26)) w.heap.size x0 x1 x2 x3 :=
  ⟨by simp, row_new w _ _ _ _ 26⟩
theorem Row.ext {w w' : World} {b : Nat} {x0 x1 x2 x3 : Int} (h : Row w b x0 x1 x2 x3) (hx : Ext w w') : Row w' b x0 x1 x2 x3 :=
  ⟨Nat.lt_of_lt_of_le h.1 hx.size, later hx h.2.1, later hx h.2.2.1, later hx h.2.2.2.1, later hx h.2.2.2.2⟩
theorem Row.two (w : World) (x0 x1 x2 x3 y0 y1 y2 y3 : Int) :
    Row ((w.alloc (.cells #[.int .u64 x0, .int .u64 x1, .int .u64 x2, .int .u64 x3] 26)).alloc (.cells #[.int .u64 y0, .int .u64 y1, .int .u64 y2, .int .u64 y3] 26)) w.heap.size x0 x1 x2 x3 ∧
    Row ((w.alloc (.cells #[.int .u64 x0, .int .u64 x1, .int .u64 x2, .int .u64 x3] 26)).alloc (.cells #[.int .u64 y0, .int .u64 y1, .int .u64 y2, .int .u64 y3] 26)) (w.heap.size + 1) y0 y1 y2 y3 := by
  refine ⟨(Row.new w x0 x1 x2 x3).ext ((Ext.refl _).alloc _), ?_⟩
  have := Row.new (w.alloc (.cells #[.int .u64 x0, .int .u64 x1, .int .u64 x2, .int .u64 x3] 26)) y0 y1 y2 y3
  rwa [show (w.alloc (.cells #[.int .u64 x0, .int .u64 x1, .int .u64 x2, .int .u64 x3] 26)).heap.size = w.heap.size + 1 from by simp] at this
end Go.Proofs.YtnaiccfdbapdpaaDoor
namespace Go.Proofs.YtnaiccfdbapdpaaDoor
open Go.RowKit
theorem extAlloc {a w : World} {o : Obj} (h : Ext a w) : Ext a (w.alloc o) := h.alloc o
theorem extDrew {a w : World} (h : Ext a w) : Ext a w.drew := h.drew
theorem Ext.st {a w : World} {b i : Nat} {v : Value} (hp : a.heap.size ≤ b) (h : Ext a w) : Ext a (w.setCell ⟨b, i, none⟩ v) := Ext.setCell h (p := ⟨b, i, none⟩) hp v
theorem keep1 {W0 wx : World} {b : Nat} {x0 x1 x2 x3 : Int} (hb : Ext W0 wx) (h : Row W0 b x0 x1 x2 x3) : Ext W0 wx ∧ wx.cell? ⟨b, 0, none⟩ = some (.int .u64 x0) ∧ wx.cell? ⟨b, 1, none⟩ = some (.int .u64 x1) ∧ wx.cell? ⟨b, 2, none⟩ = some (.int .u64 x2) ∧ wx.cell? ⟨b, 3, none⟩ = some (.int .u64 x3) :=
  ⟨hb, later hb h.2.1, later hb h.2.2.1, later hb h.2.2.2.1, later hb h.2.2.2.2⟩
theorem keep2 {W0 wx : World} {b c : Nat} {x0 x1 x2 x3 y0 y1 y2 y3 : Int} (hb : Ext W0 wx) (h : Row W0 b x0 x1 x2 x3) (k : Row W0 c y0 y1 y2 y3) : Ext W0 wx ∧ wx.cell? ⟨b, 0, none⟩ = some (.int .u64 x0) ∧ wx.cell? ⟨b, 1, none⟩ = some (.int .u64 x1) ∧ wx.cell? ⟨b, 2, none⟩ = some (.int .u64 x2) ∧ wx.cell? ⟨b, 3, none⟩ = some (.int .u64 x3) ∧ wx.cell? ⟨c, 0, none⟩ = some (.int .u64 y0) ∧ wx.cell? ⟨c, 1, none⟩ = some (.int .u64 y1) ∧ wx.cell? ⟨c, 2, none⟩ = some (.int .u64 y2) ∧ wx.cell? ⟨c, 3, none⟩ = some (.int .u64 y3) :=
  ⟨hb, later hb h.2.1, later hb h.2.2.1, later hb h.2.2.2.1, later hb h.2.2.2.2, later hb k.2.1, later hb k.2.2.1, later hb k.2.2.2.1, later hb k.2.2.2.2⟩
/-- Four words in block b, which may be written. -/
def RowF (w : World) (b : Nat) (x0 x1 x2 x3 : Int) : Prop := Row w b x0 x1 x2 x3 ∧ w.frozen? ⟨b, 0, none⟩ = false ∧ w.frozen? ⟨b, 1, none⟩ = false ∧ w.frozen? ⟨b, 2, none⟩ = false ∧ w.frozen? ⟨b, 3, none⟩ = false
theorem RowF.new (w : World) (x0 x1 x2 x3 : Int) : RowF (w.alloc (.cells #[.int .u64 x0, .int .u64 x1, .int .u64 x2, .int .u64 x3] 26)) w.heap.size x0 x1 x2 x3 :=
  ⟨Row.new w x0 x1 x2 x3, World.frozen?_alloc_at _ _ _ _ rfl, World.frozen?_alloc_at _ _ _ _ rfl, World.frozen?_alloc_at _ _ _ _ rfl, World.frozen?_alloc_at _ _ _ _ rfl⟩
theorem RowF.ext {w w' : World} {b : Nat} {x0 x1 x2 x3 : Int} (h : RowF w b x0 x1 x2 x3) (hx : Ext w w') : RowF w' b x0 x1 x2 x3 :=
  ⟨h.1.ext hx, (hx.cells.2 b 0 h.1.1).trans h.2.1, (hx.cells.2 b 1 h.1.1).trans h.2.2.1, (hx.cells.2 b 2 h.1.1).trans h.2.2.2.1, (hx.cells.2 b 3 h.1.1).trans h.2.2.2.2⟩
def SizeLe (w : World) (b : Nat) : Prop := w.heap.size ≤ b
theorem RowF.set {w : World} {b : Nat} {x0 x1 x2 x3 v0 v1 v2 v3 : Int} (h : RowF w b x0 x1 x2 x3) : RowF ((((w.setCell ⟨b, 0, none⟩ (.int .u64 v0)).setCell ⟨b, 1, none⟩ (.int .u64 v1)).setCell ⟨b, 2, none⟩ (.int .u64 v2)).setCell ⟨b, 3, none⟩ (.int .u64 v3)) b v0 v1 v2 v3 := by
  obtain ⟨⟨l, c0, c1, c2, c3⟩, f0, f1, f2, f3⟩ := h
  refine ⟨⟨by simpa using l, ?_, ?_, ?_, ?_⟩, ?_, ?_, ?_, ?_⟩ <;> go_simp
theorem RowF.other {w : World} {b c i : Nat} {x0 x1 x2 x3 : Int} {v : Value} (hne : c ≠ b) (h : RowF w c x0 x1 x2 x3) : RowF (w.setCell ⟨b, i, none⟩ v) c x0 x1 x2 x3 := by
  obtain ⟨⟨l, c0, c1, c2, c3⟩, f0, f1, f2, f3⟩ := h
  refine ⟨⟨by simpa using l, ?_, ?_, ?_, ?_⟩, ?_, ?_, ?_, ?_⟩ <;> go_simp
/-- The number in a cell. -/
def cv (w : World) (b i : Nat) : Int := match w.cell? ⟨b, i, none⟩ with
  | some (.int _ n) => n
  | _ => 0
theorem cv_row {w : World} {b : Nat} {x0 x1 x2 x3 : Int} (h : Row w b x0 x1 x2 x3) : val (cv w b 0) (cv w b 1) (cv w b 2) (cv w b 3) = val x0 x1 x2 x3 := by
  obtain ⟨_, c0, c1, c2, c3⟩ := h
  simp [cv, c0, c1, c2, c3]
theorem Row.other {w : World} {b c i : Nat} {x0 x1 x2 x3 : Int} {v : Value} (hne : c ≠ b) (h : Row w c x0 x1 x2 x3) : Row (w.setCell ⟨b, i, none⟩ v) c x0 x1 x2 x3 := by
  obtain ⟨l, c0, c1, c2, c3⟩ := h
  refine ⟨by simpa using l, ?_, ?_, ?_, ?_⟩ <;> (rw [World.cell?_setCell_far _ _ _ _ (fun q => hne q.symm)]; assumption)
end Go.Proofs.YtnaiccfdbapdpaaDoor
