/-
  Words for walks that write: rows of four words that may be written, kept over calls and other stores. No function of the program is named here.
-/
import Derived.Test.YtgpcnmdaplkpoaaBase
import Derived.Deep.RegionHeld3
import Derived.Deep.DeepCutAuto
namespace Go.Proofs.Ytgpcnmdaplkpoaa
open Go.RowKit
theorem extAlloc {a w : World} {o : Obj} (h : Ext a w) : Ext a (w.alloc o) := h.alloc o
theorem extDrew {a w : World} (h : Ext a w) : Ext a w.drew := h.drew
theorem keep1 {W0 wx : World} {b : Nat} {x0 x1 x2 x3 : Int} (hb : Ext W0 wx) (h : Row W0 b x0 x1 x2 x3) : Ext W0 wx ∧ wx.cell? ⟨b, 0, none⟩ = some (.int .u64 x0) ∧ wx.cell? ⟨b, 1, none⟩ = some (.int .u64 x1) ∧ wx.cell? ⟨b, 2, none⟩ = some (.int .u64 x2) ∧ wx.cell? ⟨b, 3, none⟩ = some (.int .u64 x3) :=
  ⟨hb, later hb h.2.1, later hb h.2.2.1, later hb h.2.2.2.1, later hb h.2.2.2.2⟩
theorem keep2 {W0 wx : World} {b c : Nat} {x0 x1 x2 x3 y0 y1 y2 y3 : Int} (hb : Ext W0 wx) (h : Row W0 b x0 x1 x2 x3) (k : Row W0 c y0 y1 y2 y3) : Ext W0 wx ∧ wx.cell? ⟨b, 0, none⟩ = some (.int .u64 x0) ∧ wx.cell? ⟨b, 1, none⟩ = some (.int .u64 x1) ∧ wx.cell? ⟨b, 2, none⟩ = some (.int .u64 x2) ∧ wx.cell? ⟨b, 3, none⟩ = some (.int .u64 x3) ∧ wx.cell? ⟨c, 0, none⟩ = some (.int .u64 y0) ∧ wx.cell? ⟨c, 1, none⟩ = some (.int .u64 y1) ∧ wx.cell? ⟨c, 2, none⟩ = some (.int .u64 y2) ∧ wx.cell? ⟨c, 3, none⟩ = some (.int .u64 y3) :=
  ⟨hb, later hb h.2.1, later hb h.2.2.1, later hb h.2.2.2.1, later hb h.2.2.2.2, later hb k.2.1, later hb k.2.2.1, later hb k.2.2.2.1, later hb k.2.2.2.2⟩
/-- Four words in block b, which may be written. -/
def RowF (w : World) (b : Nat) (x0 x1 x2 x3 : Int) : Prop := Row w b x0 x1 x2 x3 ∧ w.frozen? ⟨b, 0, none⟩ = false ∧ w.frozen? ⟨b, 1, none⟩ = false ∧ w.frozen? ⟨b, 2, none⟩ = false ∧ w.frozen? ⟨b, 3, none⟩ = false
theorem RowF.new (w : World) (x0 x1 x2 x3 : Int) : RowF (w.alloc (.cells #[.int .u64 x0, .int .u64 x1, .int .u64 x2, .int .u64 x3] 48)) w.heap.size x0 x1 x2 x3 :=
  ⟨Row.new w x0 x1 x2 x3, World.frozen?_alloc_at _ _ _ _ rfl, World.frozen?_alloc_at _ _ _ _ rfl, World.frozen?_alloc_at _ _ _ _ rfl, World.frozen?_alloc_at _ _ _ _ rfl⟩
theorem RowF.ext {w w' : World} {b : Nat} {x0 x1 x2 x3 : Int} (h : RowF w b x0 x1 x2 x3) (hx : Ext w w') : RowF w' b x0 x1 x2 x3 :=
  ⟨h.1.ext hx, (hx.cells.2 b 0 h.1.1).trans h.2.1, (hx.cells.2 b 1 h.1.1).trans h.2.2.1, (hx.cells.2 b 2 h.1.1).trans h.2.2.2.1, (hx.cells.2 b 3 h.1.1).trans h.2.2.2.2⟩
theorem RowF.set {w : World} {b : Nat} {x0 x1 x2 x3 v0 v1 v2 v3 : Int} (h : RowF w b x0 x1 x2 x3) : RowF ((((w.setCell ⟨b, 0, none⟩ (.int .u64 v0)).setCell ⟨b, 1, none⟩ (.int .u64 v1)).setCell ⟨b, 2, none⟩ (.int .u64 v2)).setCell ⟨b, 3, none⟩ (.int .u64 v3)) b v0 v1 v2 v3 := by
  obtain ⟨⟨l, c0, c1, c2, c3⟩, f0, f1, f2, f3⟩ := h
  refine ⟨⟨by simpa using l, ?_, ?_, ?_, ?_⟩, ?_, ?_, ?_, ?_⟩ <;> go_simp
theorem RowF.other {w : World} {b c i : Nat} {x0 x1 x2 x3 : Int} {v : Value} (hne : c ≠ b) (h : RowF w c x0 x1 x2 x3) : RowF (w.setCell ⟨b, i, none⟩ v) c x0 x1 x2 x3 := by
  obtain ⟨⟨l, c0, c1, c2, c3⟩, f0, f1, f2, f3⟩ := h
  refine ⟨⟨by simpa using l, ?_, ?_, ?_, ?_⟩, ?_, ?_, ?_, ?_⟩ <;> go_simp
/-- The number in a cell. -/
def cv (w : World) (b i : Nat) : Int := match w.cell? ⟨b, i, none⟩ with
  | some (.int _ n) => n
  | _ => 0
theorem cv_row {w : World} {b : Nat} {x0 x1 x2 x3 : Int} (h : Row w b x0 x1 x2 x3) : val (cv w b 0) (cv w b 1) (cv w b 2) (cv w b 3) = val x0 x1 x2 x3 := by
  obtain ⟨_, c0, c1, c2, c3⟩ := h
  simp [cv, c0, c1, c2, c3]
theorem Row.other {w : World} {b c i : Nat} {x0 x1 x2 x3 : Int} {v : Value} (hne : c ≠ b) (h : Row w c x0 x1 x2 x3) : Row (w.setCell ⟨b, i, none⟩ v) c x0 x1 x2 x3 := by
  obtain ⟨l, c0, c1, c2, c3⟩ := h
  refine ⟨by simpa using l, ?_, ?_, ?_, ?_⟩ <;> (rw [World.cell?_setCell_far _ _ _ _ (fun q => hne q.symm)]; assumption)
end Go.Proofs.Ytgpcnmdaplkpoaa
