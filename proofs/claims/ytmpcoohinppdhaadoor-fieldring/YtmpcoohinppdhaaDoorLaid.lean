/-
  What the package's variables hold when the call begins, as the rows list it, read as the walks want it; and that the door's own run lays just that.
-/
import Derived.Test.YtmpcoohinppdhaaDoorOpen
import Derived.Test.YtmpcoohinppdhaaDoorFb
import Derived.LaidMore
import Derived.Lib.LaidTab
import Derived.Stop.LaidErr
import Derived.MakeChecks
namespace Go.Proofs.YtmpcoohinppdhaaDoor
open Go.ChangeShapes Go.WideShapes Go.ChangeAt Go.RowKit
/-- The list of the rows. -/
def laid4 : List (String × DataW Unit) := [("sandglass/field.prime", Rows.laid_sandglass_field_prime), ("sandglass/field.invPower", Rows.laid_sandglass_field_invPower), ("sandglass/field.rootPower", Rows.laid_sandglass_field_rootPower), ("sandglass/field.square", Rows.laid_sandglass_field_square)]
theorem gv0 : Tryd.prog.globalNamed "sandglass/field.prime" = some 0 := by kernel_rfl
theorem gt0 : (Tryd.prog.globals[0]?).map (·.type) = some 24 := by kernel_rfl
theorem gv2 : Tryd.prog.globalNamed "sandglass/field.invPower" = some 2 := by kernel_rfl
theorem gt2 : (Tryd.prog.globals[2]?).map (·.type) = some 24 := by kernel_rfl
theorem gv1 : Tryd.prog.globalNamed "sandglass/field.rootPower" = some 1 := by kernel_rfl
theorem gt1 : (Tryd.prog.globals[1]?).map (·.type) = some 24 := by kernel_rfl
theorem gv3 : Tryd.prog.globalNamed "sandglass/field.square" = some 3 := by kernel_rfl
theorem gt3 : (Tryd.prog.globals[3]?).map (·.type) = some 24 := by kernel_rfl
theorem row_of_tab {W : World} {name : String} {g : Nat} {x0 x1 x2 x3 : Int} (hg : Tryd.prog.globalNamed name = some g) (h : Lib.TabIs Tryd.prog W name .u64 [x0, x1, x2, x3]) : Row W g x0 x1 x2 x3 :=
  ⟨block_lt_of_cell (h.cell hg 0 (by simp)), h.cell hg 0 (by simp), h.cell hg 1 (by simp), h.cell hg 2 (by simp), h.cell hg 3 (by simp)⟩
theorem gl_of_laid {W : World} (h : laidMetH Tryd.prog laid4 W) : Gl W := by
  rw [MakeChecks.laidMetH_plain _ _ _ (by kernel_rfl)] at h
  have t0 : Lib.TabIs Tryd.prog W "sandglass/field.prime" .u64 [18446744073709551615, 4294967295, 0, 18446744069414584321] := Lib.tabIs_of_head gv0 gt0 Tryd.underlying24 Tryd.underlying22 Tryd.cells22 Tryd.cells24 h
  have t2 : Lib.TabIs Tryd.prog W "sandglass/field.invPower" .u64 [18446744073709551613, 4294967295, 0, 18446744069414584321] := Lib.tabIs_of_head gv2 gt2 Tryd.underlying24 Tryd.underlying22 Tryd.cells22 Tryd.cells24 (h).tail
  have t1 : Lib.TabIs Tryd.prog W "sandglass/field.rootPower" .u64 [0, 1073741824, 4611686018427387904, 4611686017353646080] := Lib.tabIs_of_head gv1 gt1 Tryd.underlying24 Tryd.underlying22 Tryd.cells22 Tryd.cells24 (h).tail.tail
  have t3 : Lib.TabIs Tryd.prog W "sandglass/field.square" .u64 [3, 18446744056529682431, 18446744073709551614, 21474836477] := Lib.tabIs_of_head gv3 gt3 Tryd.underlying24 Tryd.underlying22 Tryd.cells22 Tryd.cells24 (h).tail.tail.tail
  exact ⟨row_of_tab gv0 t0, row_of_tab gv1 t1, row_of_tab gv2 t2, row_of_tab gv3 t3⟩
theorem door_met (os : Os) (args : Array Value) : laidMetH Tryd.prog laid4 ((World.doorLaid Tryd.prog 400 os).forCall (fun _ _ => 0) ⟨#[], args, []⟩).memory :=
  laidMetH_of_parts3 (fuel := 8) (laidMet_of_run' 8 (by kernel_rfl) (by kernel_rfl)) (by kernel_rfl) (by kernel_rfl)
end Go.Proofs.YtmpcoohinppdhaaDoor
