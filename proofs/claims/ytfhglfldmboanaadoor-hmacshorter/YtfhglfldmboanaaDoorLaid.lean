/-
  What the package's variables hold when the call begins, as the rows list it, read as the walks want it; and that the door's own run lays just that.
-/
import Derived.Test.YtfhglfldmboanaaDoorOpen
import Derived.Test.YtfhglfldmboanaaDoorGl
import Derived.LaidMore
import Derived.Lib.LaidTab
import Derived.Stop.LaidErr
import Derived.MakeChecks
namespace Go.Proofs.YtfhglfldmboanaaDoor
open Go.ChangeShapes Go.WideShapes Go.ChangeAt Go.RowKit
/-- The list of the rows. -/
def laidL : List (String × DataW Unit) := [("sandglass/sha.start", Rows.laid_sandglass_sha_start), ("sandglass/sha.roundNumbers", Rows.laid_sandglass_sha_roundNumbers)]
theorem gv0 : Tryd.prog.globalNamed "sandglass/sha.start" = some 0 := by kernel_rfl
theorem gt0 : (Tryd.prog.globals[0]?).map (·.type) = some 58 := by kernel_rfl
theorem gv1 : Tryd.prog.globalNamed "sandglass/sha.roundNumbers" = some 1 := by kernel_rfl
theorem gt1 : (Tryd.prog.globals[1]?).map (·.type) = some 52 := by kernel_rfl
theorem tab_cell {W : World} {name : String} {g : Nat} {l : List Nat} (hg : Tryd.prog.globalNamed name = some g) (h : Lib.TabIs Tryd.prog W name .u32 (l.map fun n => ((n : Nat) : Int))) {k : Nat} (hk : k < l.length) : W.cell? ⟨g, k, none⟩ = some (.int .u32 ((l.getD k 0 : Nat) : Int)) := by
  have hc := h.cell hg k (by simpa using hk)
  rw [hc]
  simp [hk]
set_option maxRecDepth 100000 in
theorem gl_of_laid {W : World} (h : laidMetH Tryd.prog laidL W) : Gl W := by
  rw [MakeChecks.laidMetH_plain _ _ _ (by kernel_rfl)] at h
  have t0 : Lib.TabIs Tryd.prog W "sandglass/sha.start" .u32 (HH.map fun n => ((n : Nat) : Int)) := Lib.tabIs_of_head gv0 gt0 Tryd.underlying58 Tryd.underlying50 Tryd.cells50o Tryd.cells58 h
  have t1 : Lib.TabIs Tryd.prog W "sandglass/sha.roundNumbers" .u32 (KK.map fun n => ((n : Nat) : Int)) := Lib.tabIs_of_head gv1 gt1 Tryd.underlying52 Tryd.underlying50 Tryd.cells50o Tryd.cells52 (h).tail
  exact ⟨block_lt_of_cell (tab_cell gv1 t1 (k := 0) (by decide)), fun k hk => tab_cell gv0 t0 hk, fun k hk => tab_cell gv1 t1 hk⟩
theorem door_met (os : Os) (args : Array Value) : laidMetH Tryd.prog laidL ((World.doorLaid Tryd.prog 400 os).forCall (fun _ _ => 0) ⟨#[], args, []⟩).memory :=
  laidMetH_of_parts3 (fuel := 8) (laidMet_of_run' 8 (by kernel_rfl) (by kernel_rfl)) (by kernel_rfl) (by kernel_rfl)
end Go.Proofs.YtfhglfldmboanaaDoor
