/-
  What the rows' frames ask of the program: closed facts; and how a lock (a struct of three texts) that comes in is read.
-/
import Derived.Test.YtbcgipapbamgfaaDoorRows
import Derived.WalkKit
import Derived.ProofKit
import Derived.OpenShut
import Derived.ShutString
import Derived.ChangeOld
import Derived.ChangeSame
import Derived.ChangeArms
import Derived.Deep.Strs
import Derived.Below
namespace Go.Proofs.YtbcgipapbamgfaaDoor
open Go.ChangeShapes Go.WideShapes Go.ChangeAt Go.RowKit
theorem Tryd.own : ownKnob Tryd.prog.godebug = none := by kernel_rfl
theorem Tryd.laidOut : laidOutB Tryd.prog = true := by kernel_rfl
theorem Tryd.cells3o : Tryd.prog.cellsOf 3 = 1 := by kernel_rfl
theorem Tryd.cells9o : Tryd.prog.cellsOf 9 = 1 := by kernel_rfl
theorem Tryd.cells23o : Tryd.prog.cellsOf 23 = 3 := by kernel_rfl
theorem Tryd.cells112o : Tryd.prog.cellsOf 112 = 4 := by kernel_rfl
theorem Tryd.cells113o : Tryd.prog.cellsOf 113 = 32 := by kernel_rfl
theorem list3 {α : Type} (l : List α) (h : (⟨l⟩ : Array α).size = 3) : ∃ a b c, l = [a, b, c] := by
  match l, h with
  | [a, b, c], _ => exact ⟨a, b, c, rfl⟩
set_option maxRecDepth 10000 in
theorem open_lock {H : Type} {enc : TypeId × Value → H} {W : World} {base : Nat} {v : Value} {d : DataW H} {p : List MemPlace} (hv : Value.okWide Tryd.prog W .any base 23 v)
    (h : DataW.Trod enc Tryd.prog W 0 (fun _ => true) true 23 v d p) : ∃ (x y z : ByteArray), v = .agg #[.string x, .string y, .string z] := by
  obtain ⟨cs, rfl, hsz, _⟩ : ∃ cs, v = .agg cs ∧ cs.size = Tryd.prog.cellsOf 23 ∧ Row.okWide Tryd.prog W .any base 23 cs := by
    simpa [Value.okWide, Tryd.underlying23] using hv
  rw [Tryd.cells23o] at hsz
  obtain ⟨l⟩ := cs
  obtain ⟨c0, c1, c2, rfl⟩ := list3 l hsz
  obtain ⟨fuel, hf⟩ := h
  obtain ⟨y0, y1, y2, m, hx, _, hy0, hy1, hy2⟩ := Go.Deep.trod_struct3 Tryd.underlying23 hf
  obtain ⟨x0, e0, _, _⟩ := DataW.trod_string Tryd.underlying9 hy0
  obtain ⟨x1, e1, _, _⟩ := DataW.trod_string Tryd.underlying9 hy1
  obtain ⟨x2, e2, _, _⟩ := DataW.trod_string Tryd.underlying9 hy2
  simp [Tryd.cells9o, Value.cells] at e0 e1 e2
  subst e0 e1 e2
  exact ⟨x0, x1, x2, rfl⟩
end Go.Proofs.YtbcgipapbamgfaaDoor
