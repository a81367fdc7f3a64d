/-
  What the rows' frames ask of the program: closed facts.
-/
import Derived.Test.YtnejnaaielohjaaDoorRows
import Derived.WalkKit
import Derived.ProofKit
import Derived.OpenShut
import Derived.ShutString
import Derived.ChangeOld
import Derived.Below
namespace Go.Proofs.YtnejnaaielohjaaDoor
open Go.ChangeShapes Go.WideShapes Go.ChangeAt Go.RowKit
theorem Tryd.own : ownKnob Tryd.prog.godebug = none := by kernel_rfl
theorem Tryd.laidOut : laidOutB Tryd.prog = true := by kernel_rfl
theorem Tryd.cells28o : Tryd.prog.cellsOf 28 = 1 := by kernel_rfl
theorem Tryd.cells29 : Tryd.prog.cellsOf 29 = 8 := by kernel_rfl
theorem Tryd.cells31 : Tryd.prog.cellsOf 31 = 64 := by kernel_rfl
end Go.Proofs.YtnejnaaielohjaaDoor
