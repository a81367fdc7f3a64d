/-
  What the packages' variables hold when the call begins, as the rows list it, read as the walks want it; and that the door's own run lays just that.
-/
import Derived.Test.YtpfeakdpckmcgaaDoorOpen
import Derived.LaidMore
import Derived.Lib.LaidTab
import Derived.Stop.LaidErr
import Derived.MakeChecks
namespace Go.Proofs.YtpfeakdpckmcgaaDoor
set_option maxRecDepth 10000
open Go.ChangeShapes Go.WideShapes Go.ChangeAt Go.RowKit
/-- The list of the rows. -/
def laidL : List (String × DataW Unit) := [("sandglass/scalar.order", Rows.laid_sandglass_scalar_order), ("sandglass/sha.start", Rows.laid_sandglass_sha_start), ("sandglass/sha.roundNumbers", Rows.laid_sandglass_sha_roundNumbers)]
theorem Tryd.cells37l : Tryd.prog.cellsOf 37 = 1 := by kernel_rfl
theorem Tryd.cells39l : Tryd.prog.cellsOf 39 = 4 := by kernel_rfl
theorem Tryd.cells80l : Tryd.prog.cellsOf 80 = 1 := by kernel_rfl
theorem Tryd.cells98l : Tryd.prog.cellsOf 98 = 8 := by kernel_rfl
theorem Tryd.cells82l : Tryd.prog.cellsOf 82 = 64 := by kernel_rfl
theorem gv0 : Tryd.prog.globalNamed "sandglass/scalar.order" = some 0 := by kernel_rfl
theorem gt0 : (Tryd.prog.globals[0]?).map (·.type) = some 39 := by kernel_rfl
theorem gv1 : Tryd.prog.globalNamed "sandglass/sha.start" = some 1 := by kernel_rfl
theorem gt1 : (Tryd.prog.globals[1]?).map (·.type) = some 98 := by kernel_rfl
theorem gv2 : Tryd.prog.globalNamed "sandglass/sha.roundNumbers" = some 2 := by kernel_rfl
theorem gt2 : (Tryd.prog.globals[2]?).map (·.type) = some 82 := by kernel_rfl
theorem tab_cell {W : World} {name : String} {g : Nat} {l : List Nat} (hg : Tryd.prog.globalNamed name = some g) (h : Lib.TabIs Tryd.prog W name .u32 (l.map fun n => ((n : Nat) : Int))) {k : Nat} (hk : k < l.length) : W.cell? ⟨g, k, none⟩ = some (.int .u32 ((l.getD k 0 : Nat) : Int)) := by
  have hc := h.cell hg k (by simpa using hk)
  rw [hc]
  simp [hk]
theorem row_of_tab {W : World} {name : String} {g : Nat} {x0 x1 x2 x3 : Int} (hg : Tryd.prog.globalNamed name = some g) (h : Lib.TabIs Tryd.prog W name .u64 [x0, x1, x2, x3]) : Row W g x0 x1 x2 x3 :=
  ⟨block_lt_of_cell (h.cell hg 0 (by simp)), h.cell hg 0 (by simp), h.cell hg 1 (by simp), h.cell hg 2 (by simp), h.cell hg 3 (by simp)⟩
set_option maxRecDepth 100000 in
theorem gl_of_laid {W : World} (h : laidMetH Tryd.prog laidL W) : Gl W := by
  rw [MakeChecks.laidMetH_plain _ _ _ (by kernel_rfl)] at h
  have t0 : Lib.TabIs Tryd.prog W "sandglass/scalar.order" .u64 [17562291160714782033, 13611842547513532036, 18446744073709551615, 18446744069414584320] := Lib.tabIs_of_head gv0 gt0 Tryd.underlying39 Tryd.underlying37 Tryd.cells37l Tryd.cells39l h
  have t1 : Lib.TabIs Tryd.prog W "sandglass/sha.start" .u32 (HH.map fun n => ((n : Nat) : Int)) := Lib.tabIs_of_head gv1 gt1 Tryd.underlying98 Tryd.underlying80 Tryd.cells80l Tryd.cells98l (h).tail
  have t2 : Lib.TabIs Tryd.prog W "sandglass/sha.roundNumbers" .u32 (KK.map fun n => ((n : Nat) : Int)) := Lib.tabIs_of_head gv2 gt2 Tryd.underlying82 Tryd.underlying80 Tryd.cells80l Tryd.cells82l (h).tail.tail
  exact ⟨⟨block_lt_of_cell (tab_cell gv2 t2 (k := 0) (by decide)), fun k hk => tab_cell gv1 t1 hk, fun k hk => tab_cell gv2 t2 hk⟩, row_of_tab gv0 t0⟩
theorem door_met (os : Os) (args : Array Value) : laidMetH Tryd.prog laidL ((World.doorLaid Tryd.prog 400 os).forCall (fun _ _ => 0) ⟨#[], args, []⟩).memory :=
  laidMetH_of_parts3 (fuel := 8) (laidMet_of_run' 8 (by kernel_rfl) (by kernel_rfl)) (by kernel_rfl) (by kernel_rfl)
end Go.Proofs.YtpfeakdpckmcgaaDoor
