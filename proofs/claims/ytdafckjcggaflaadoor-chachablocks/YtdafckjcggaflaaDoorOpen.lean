/-
  What the rows' frames ask of the program: closed facts; and how a key (a struct of two texts and a number) that comes in is read.
-/
import Derived.Test.YtdafckjcggaflaaDoorRows
import Derived.WalkKit
import Derived.ProofKit
import Derived.OpenShut
import Derived.ShutString
import Derived.ChangeOld
import Derived.ChangeSame
import Derived.ChangeArms
import Derived.Deep.Strs
import Derived.Below
namespace Go.Proofs.YtdafckjcggaflaaDoor
open Go.ChangeShapes Go.WideShapes Go.ChangeAt Go.RowKit
theorem Tryd.own : ownKnob Tryd.prog.godebug = none := by kernel_rfl
theorem Tryd.laidOut : laidOutB Tryd.prog = true := by kernel_rfl
theorem Tryd.cells3o : Tryd.prog.cellsOf 3 = 1 := by kernel_rfl
theorem Tryd.cells9o : Tryd.prog.cellsOf 9 = 1 := by kernel_rfl
theorem Tryd.cells22o : Tryd.prog.cellsOf 22 = 1 := by kernel_rfl
theorem Tryd.cells31o : Tryd.prog.cellsOf 31 = 3 := by kernel_rfl
theorem Tryd.cells60o : Tryd.prog.cellsOf 60 = 4 := by kernel_rfl
theorem Tryd.cells61o : Tryd.prog.cellsOf 61 = 32 := by kernel_rfl
theorem list3 {α : Type} (l : List α) (h : (⟨l⟩ : Array α).size = 3) : ∃ a b c, l = [a, b, c] := by
  match l, h with
  | [a, b, c], _ => exact ⟨a, b, c, rfl⟩
theorem nat_u32 {n : Int} (h : (Lit.int .u32 n).wf = true) : ∃ m : Nat, n = (m : Int) ∧ m < 4294967296 := ⟨n.toNat, by have := bounds_u32 h; omega, by have := bounds_u32 h; omega⟩
theorem open_key {H : Type} {enc : TypeId × Value → H} {W : World} {base : Nat} {v : Value} {d : DataW H} {p : List MemPlace} (hv : Value.okWide Tryd.prog W .any base 31 v)
    (h : DataW.Trod enc Tryd.prog W 0 (fun _ => true) true 31 v d p) : ∃ (x y : ByteArray) (n : Nat), v = .agg #[.string x, .string y, .int .u32 (n : Int)] ∧ n < 4294967296 := by
  obtain ⟨cs, rfl, hsz, _⟩ : ∃ cs, v = .agg cs ∧ cs.size = Tryd.prog.cellsOf 31 ∧ Row.okWide Tryd.prog W .any base 31 cs := by
    simpa [Value.okWide, Tryd.underlying31] using hv
  rw [Tryd.cells31o] at hsz
  obtain ⟨l⟩ := cs
  obtain ⟨c0, c1, c2, rfl⟩ := list3 l hsz
  obtain ⟨fuel, hf⟩ := h
  obtain ⟨y0, y1, y2, m, hx, _, hy0, hy1, hy2⟩ := Go.Deep.trod_struct3 Tryd.underlying31 hf
  obtain ⟨x0, e0, _, _⟩ := DataW.trod_string Tryd.underlying9 hy0
  obtain ⟨x1, e1, _, _⟩ := DataW.trod_string Tryd.underlying9 hy1
  obtain ⟨x2, e2, _, w2⟩ := DataW.trod_int Tryd.underlying22 hy2
  obtain ⟨n, rfl, hn⟩ := nat_u32 w2
  simp [Tryd.cells9o, Tryd.cells22o, Value.cells] at e0 e1 e2
  subst e0 e1 e2
  exact ⟨x0, x1, n, rfl, hn⟩
end Go.Proofs.YtdafckjcggaflaaDoor
