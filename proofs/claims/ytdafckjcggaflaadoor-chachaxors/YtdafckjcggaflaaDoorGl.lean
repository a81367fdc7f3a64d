/-
  The package's variable (quarters), and a row of it.
-/
import Derived.Test.YtdafckjcggaflaaDoorQMath
namespace Go.Proofs.YtdafckjcggaflaaDoor
open Go.RowKit
def qf (k : Nat) : Nat := QQ.getD k 0
/-- The package's variable holds what its initialiser lays. -/
def Gl (w : World) : Prop := ∃ t fr, w.heap[0]? = some (.cells (lst .i64 qf 32).toArray t fr)
theorem Gl.ext {w w' : World} (h : Gl w) (hx : Ext w w') : Gl w' := by
  obtain ⟨t, fr, h⟩ := h
  exact ⟨t, fr, (Below.block hx 0 (Array.getElem?_eq_some_iff.1 h).1).trans h⟩
theorem Tryd.size61 : (Tryd.prog.info? 61).map (·.size) = some 32 := by kernel_rfl
theorem Tryd.size60 : (Tryd.prog.info? 60).map (·.size) = some 4 := by kernel_rfl
theorem Tryd.size36 : (Tryd.prog.info? 36).map (·.size) = some 16 := by kernel_rfl
theorem Tryd.size39 : (Tryd.prog.info? 39).map (·.size) = some 64 := by kernel_rfl
def qrow (j : Nat) (k : Nat) : Nat := qat j k
theorem idx_row (j : Nat) (hj : j < 8) (w : World) : (Instr.index 61 (.agg (lst .i64 qf 32).toArray) (.int .i64 (j : Int))).run Tryd.prog w = .ok (.agg (lst .i64 (qrow j) 4).toArray) w := by
  obtain rfl | rfl | rfl | rfl | rfl | rfl | rfl | rfl : j = 0 ∨ j = 1 ∨ j = 2 ∨ j = 3 ∨ j = 4 ∨ j = 5 ∨ j = 6 ∨ j = 7 := by omega
  all_goals kernel_rfl
end Go.Proofs.YtdafckjcggaflaaDoor
