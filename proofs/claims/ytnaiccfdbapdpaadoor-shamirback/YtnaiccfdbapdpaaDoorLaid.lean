/-
  What the package's variables hold when the call begins, as the rows list it, read as the walks want it; and that the door's own run lays just that.
-/
import Derived.Test.YtnaiccfdbapdpaaDoorOpen
import Derived.Test.YtnaiccfdbapdpaaDoorSa
import Derived.LaidMore
import Derived.Lib.LaidTab
import Derived.Stop.LaidErr
import Derived.MakeChecks
namespace Go.Proofs.YtnaiccfdbapdpaaDoor
open Go.ChangeShapes Go.WideShapes Go.ChangeAt Go.RowKit
/-- The list of the rows. -/
def laidL : List (String × DataW Unit) := [("sandglass/scalar.order", Rows.laid_sandglass_scalar_order), ("sandglass/scalar.invPower", Rows.laid_sandglass_scalar_invPower)]
theorem gv0 : Tryd.prog.globalNamed "sandglass/scalar.order" = some 0 := by kernel_rfl
theorem gt0 : (Tryd.prog.globals[0]?).map (·.type) = some 26 := by kernel_rfl
theorem gv1 : Tryd.prog.globalNamed "sandglass/scalar.invPower" = some 1 := by kernel_rfl
theorem gt1 : (Tryd.prog.globals[1]?).map (·.type) = some 26 := by kernel_rfl
theorem row_of_tab {W : World} {name : String} {g : Nat} {x0 x1 x2 x3 : Int} (hg : Tryd.prog.globalNamed name = some g) (h : Lib.TabIs Tryd.prog W name .u64 [x0, x1, x2, x3]) : Row W g x0 x1 x2 x3 :=
  ⟨block_lt_of_cell (h.cell hg 0 (by simp)), h.cell hg 0 (by simp), h.cell hg 1 (by simp), h.cell hg 2 (by simp), h.cell hg 3 (by simp)⟩
theorem gl_of_laid {W : World} (h : laidMetH Tryd.prog laidL W) : Gl W := by
  rw [MakeChecks.laidMetH_plain _ _ _ (by kernel_rfl)] at h
  have t0 : Lib.TabIs Tryd.prog W "sandglass/scalar.order" .u64 [17562291160714782033, 13611842547513532036, 18446744073709551615, 18446744069414584320] := Lib.tabIs_of_head gv0 gt0 Tryd.underlying26 Tryd.underlying24 Tryd.cells24 Tryd.cells26 h
  have t1 : Lib.TabIs Tryd.prog W "sandglass/scalar.invPower" .u64 [17562291160714782031, 13611842547513532036, 18446744073709551615, 18446744069414584320] := Lib.tabIs_of_head gv1 gt1 Tryd.underlying26 Tryd.underlying24 Tryd.cells24 Tryd.cells26 (h).tail
  exact ⟨row_of_tab gv0 t0, row_of_tab gv1 t1⟩
theorem door_met (os : Os) (args : Array Value) : laidMetH Tryd.prog laidL ((World.doorLaid Tryd.prog 400 os).forCall (fun _ _ => 0) ⟨#[], args, []⟩).memory :=
  laidMetH_of_parts3 (fuel := 8) (laidMet_of_run' 8 (by kernel_rfl) (by kernel_rfl)) (by kernel_rfl) (by kernel_rfl)
end Go.Proofs.YtnaiccfdbapdpaaDoor
