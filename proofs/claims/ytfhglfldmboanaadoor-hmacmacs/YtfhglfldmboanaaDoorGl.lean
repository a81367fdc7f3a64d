/-
  What the package's variables hold, as a fact of the world. No function of the program is named here.
-/
import Derived.Test.YtfhglfldmboanaaDoorShaMath
import Derived.Test.YtfhglfldmboanaaDoorEx
namespace Go.Proofs.YtfhglfldmboanaaDoor
open Go.RowKit
/-- The package's variables hold what their initialisers lay. -/
def Gl (w : World) : Prop := 1 < w.heap.size ∧ (∀ k, k < 8 → w.cell? ⟨0, k, none⟩ = some (.int .u32 ((HH.getD k 0 : Nat) : Int))) ∧ ∀ k, k < 64 → w.cell? ⟨1, k, none⟩ = some (.int .u32 ((KK.getD k 0 : Nat) : Int))
theorem Gl.ext {w w' : World} (h : Gl w) (hx : Ext w w') : Gl w' := ⟨Nat.lt_of_lt_of_le h.1 hx.size, fun k hk => later hx (h.2.1 k hk), fun k hk => later hx (h.2.2 k hk)⟩
end Go.Proofs.YtfhglfldmboanaaDoor
