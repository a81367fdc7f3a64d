/-
  NARROWER THAN 'FOR EVERY INPUT', by the rows' own cells (each row's printed sentence says how): ScalarSums: laid · ScalarProducts: laid · ScalarInverses: laid · ScalarRing: laid · ScalarWides: laid · ScalarHalves: laid.
  DERIVED. THE GIVEN ROWS OF THIS SEAT. 6 by the template 'for every input the law returns true; each argument reads behind the call as it read before'; 0 by the template 'total and deterministic' (their statements: YtdjdociecokilaaDoorTotals.lean).
  GIVEN WITH THE SEED: the statements are not yours to turn. If you find one false, say at which input.
  Laid BY PROGRAM, IN A SANDBOX (cutbox-rows.mjs): the forced cells as the released guide's own fill.sh prints them over the translation d41bfec32a22bdd5… (all of the seat's roots in one cut). By AI agents, Wed Nov 11 2026. No macro, syntax, notation, axiom, sorry.
-/
import Derived.Test.YtdjdociecokilaaDoorChecked
import GoSem.Claim
import GoSem.ClaimJoined
import GoSem.ClaimMapViews
import Derived.JoinedTies
import Derived.KernelRfl
namespace Go.Proofs.YtdjdociecokilaaDoor
/- THE CELL 'sum', in the pinned program and in every row, IS THE sha256 OF THE DUMP (.gsa) THAT YtdjdociecokilaaDoorProg.lean LOADS. Nothing in Lean hashes anything: it is a label: what it is worth is what the hold of that sum in a sandbox is worth. -/
noncomputable def Tryd.pinned : Pinned := { name := "ytdjdociecokilaadoor", sum := "d41bfec32a22bdd514b4ef8872a7f1d9bbb4f55e635b20cac27442fb603b229e", checked := Tryd.checked }
namespace Rows
def none {H : Type} : Left H := { results := [], args := [] }

/- WHAT THE LISTED PACKAGE-LEVEL VARIABLES READ AS WHEN THE CALL BEGINS. Each datum BY PROGRAM (the guide's laid-datum.mjs) off the statement by which the dump's own 'gosem.cut.vars' lays the variable. In a bare row this is a premise. The card (YtdjdociecokilaaDoorCards.lean) ties it to the program's text. -/
def laid_sandglass_scalar_order {H : Type} : DataW H := .agg [.lit (.int .u64 17562291160714782033), .lit (.int .u64 13611842547513532036), .lit (.int .u64 18446744073709551615), .lit (.int .u64 18446744069414584320)]
def laid_sandglass_scalar_invPower {H : Type} : DataW H := .agg [.lit (.int .u64 17562291160714782031), .lit (.int .u64 13611842547513532036), .lit (.int .u64 18446744073709551615), .lit (.int .u64 18446744069414584320)]

/-- 'sandglasslaw03.ScalarSums': WHATEVER THE INPUT: true; the input reads as it did. -/
def scalarSumsSpec : ChangeSpec := { name := "scalarSums", fn := fun _ => fun
  | [d1, d2] => { results := [.lit (.bool true)], args := [d1, d2] }
  | _ => none }
def scalarSumsRow : OpenClaim := { program := "ytdjdociecokilaadoor", sum := "d41bfec32a22bdd514b4ef8872a7f1d9bbb4f55e635b20cac27442fb603b229e", func := "sandglass/sandglasslaw03.ScalarSums", spec := "scalarSums", inPlace := ["math/bits.Add64", "math/bits.Sub64"], named := ["sandglass/scalar.order", "sandglass/scalar.invPower"], apart := false, laid := [("sandglass/scalar.order", laid_sandglass_scalar_order), ("sandglass/scalar.invPower", laid_sandglass_scalar_invPower)] }
def ScalarSumsSaid : Prop := scalarSumsRow.holds Tryd.pinned (OpenSpec.ofChange scalarSumsSpec)

/-- ITS FALSE NEIGHBOUR: 'it returns false'. Refute it at one input. -/
def scalarSumsWrong : ChangeSpec := { name := "scalarSums", fn := fun _ => fun
  | [d1, d2] => { results := [.lit (.bool false)], args := [d1, d2] }
  | _ => none }
def ScalarSumsWrongFalsely : Prop := scalarSumsRow.holds Tryd.pinned (OpenSpec.ofChange scalarSumsWrong)

/-- 'sandglasslaw03.ScalarProducts': WHATEVER THE INPUT: true; the input reads as it did. -/
def scalarProductsSpec : ChangeSpec := { name := "scalarProducts", fn := fun _ => fun
  | [d1, d2] => { results := [.lit (.bool true)], args := [d1, d2] }
  | _ => none }
def scalarProductsRow : OpenClaim := { program := "ytdjdociecokilaadoor", sum := "d41bfec32a22bdd514b4ef8872a7f1d9bbb4f55e635b20cac27442fb603b229e", func := "sandglass/sandglasslaw03.ScalarProducts", spec := "scalarProducts", inPlace := ["math/bits.Add64", "math/bits.Sub64"], named := ["sandglass/scalar.order", "sandglass/scalar.invPower"], apart := false, laid := [("sandglass/scalar.order", laid_sandglass_scalar_order), ("sandglass/scalar.invPower", laid_sandglass_scalar_invPower)] }
def ScalarProductsSaid : Prop := scalarProductsRow.holds Tryd.pinned (OpenSpec.ofChange scalarProductsSpec)

/-- ITS FALSE NEIGHBOUR: 'it returns false'. Refute it at one input. -/
def scalarProductsWrong : ChangeSpec := { name := "scalarProducts", fn := fun _ => fun
  | [d1, d2] => { results := [.lit (.bool false)], args := [d1, d2] }
  | _ => none }
def ScalarProductsWrongFalsely : Prop := scalarProductsRow.holds Tryd.pinned (OpenSpec.ofChange scalarProductsWrong)

/-- 'sandglasslaw03.ScalarInverses': WHATEVER THE INPUT: true; the input reads as it did. -/
def scalarInversesSpec : ChangeSpec := { name := "scalarInverses", fn := fun _ => fun
  | [d] => { results := [.lit (.bool true)], args := [d] }
  | _ => none }
def scalarInversesRow : OpenClaim := { program := "ytdjdociecokilaadoor", sum := "d41bfec32a22bdd514b4ef8872a7f1d9bbb4f55e635b20cac27442fb603b229e", func := "sandglass/sandglasslaw03.ScalarInverses", spec := "scalarInverses", inPlace := ["math/bits.Add64", "math/bits.Sub64"], named := ["sandglass/scalar.invPower", "sandglass/scalar.order"], apart := false, laid := [("sandglass/scalar.order", laid_sandglass_scalar_order), ("sandglass/scalar.invPower", laid_sandglass_scalar_invPower)] }
def ScalarInversesSaid : Prop := scalarInversesRow.holds Tryd.pinned (OpenSpec.ofChange scalarInversesSpec)

/-- ITS FALSE NEIGHBOUR: 'it returns false'. Refute it at one input. -/
def scalarInversesWrong : ChangeSpec := { name := "scalarInverses", fn := fun _ => fun
  | [d] => { results := [.lit (.bool false)], args := [d] }
  | _ => none }
def ScalarInversesWrongFalsely : Prop := scalarInversesRow.holds Tryd.pinned (OpenSpec.ofChange scalarInversesWrong)

/-- 'sandglasslaw03.ScalarRing': WHATEVER THE INPUT: true; the input reads as it did. -/
def scalarRingSpec : ChangeSpec := { name := "scalarRing", fn := fun _ => fun
  | [d1, d2, d3] => { results := [.lit (.bool true)], args := [d1, d2, d3] }
  | _ => none }
def scalarRingRow : OpenClaim := { program := "ytdjdociecokilaadoor", sum := "d41bfec32a22bdd514b4ef8872a7f1d9bbb4f55e635b20cac27442fb603b229e", func := "sandglass/sandglasslaw03.ScalarRing", spec := "scalarRing", inPlace := ["math/bits.Add64", "math/bits.Sub64"], named := ["sandglass/scalar.order", "sandglass/scalar.invPower"], apart := false, laid := [("sandglass/scalar.order", laid_sandglass_scalar_order), ("sandglass/scalar.invPower", laid_sandglass_scalar_invPower)] }
def ScalarRingSaid : Prop := scalarRingRow.holds Tryd.pinned (OpenSpec.ofChange scalarRingSpec)

/-- ITS FALSE NEIGHBOUR: 'it returns false'. Refute it at one input. -/
def scalarRingWrong : ChangeSpec := { name := "scalarRing", fn := fun _ => fun
  | [d1, d2, d3] => { results := [.lit (.bool false)], args := [d1, d2, d3] }
  | _ => none }
def ScalarRingWrongFalsely : Prop := scalarRingRow.holds Tryd.pinned (OpenSpec.ofChange scalarRingWrong)

/-- 'sandglasslaw03.ScalarWides': WHATEVER THE INPUT: true; the input reads as it did. -/
def scalarWidesSpec : ChangeSpec := { name := "scalarWides", fn := fun _ => fun
  | [d] => { results := [.lit (.bool true)], args := [d] }
  | _ => none }
def scalarWidesRow : OpenClaim := { program := "ytdjdociecokilaadoor", sum := "d41bfec32a22bdd514b4ef8872a7f1d9bbb4f55e635b20cac27442fb603b229e", func := "sandglass/sandglasslaw03.ScalarWides", spec := "scalarWides", inPlace := ["math/bits.Add64", "math/bits.Sub64"], named := ["sandglass/scalar.order", "sandglass/scalar.invPower"], apart := false, laid := [("sandglass/scalar.order", laid_sandglass_scalar_order), ("sandglass/scalar.invPower", laid_sandglass_scalar_invPower)] }
def ScalarWidesSaid : Prop := scalarWidesRow.holds Tryd.pinned (OpenSpec.ofChange scalarWidesSpec)

/-- ITS FALSE NEIGHBOUR: 'it returns false'. Refute it at one input. -/
def scalarWidesWrong : ChangeSpec := { name := "scalarWides", fn := fun _ => fun
  | [d] => { results := [.lit (.bool false)], args := [d] }
  | _ => none }
def ScalarWidesWrongFalsely : Prop := scalarWidesRow.holds Tryd.pinned (OpenSpec.ofChange scalarWidesWrong)

/-- 'sandglasslaw03.ScalarHalves': WHATEVER THE INPUT: true; the input reads as it did. -/
def scalarHalvesSpec : ChangeSpec := { name := "scalarHalves", fn := fun _ => fun
  | [d1, d2] => { results := [.lit (.bool true)], args := [d1, d2] }
  | _ => none }
def scalarHalvesRow : OpenClaim := { program := "ytdjdociecokilaadoor", sum := "d41bfec32a22bdd514b4ef8872a7f1d9bbb4f55e635b20cac27442fb603b229e", func := "sandglass/sandglasslaw03.ScalarHalves", spec := "scalarHalves", inPlace := ["math/bits.Add64", "math/bits.Sub64"], named := ["sandglass/scalar.order", "sandglass/scalar.invPower"], apart := false, laid := [("sandglass/scalar.order", laid_sandglass_scalar_order), ("sandglass/scalar.invPower", laid_sandglass_scalar_invPower)] }
def ScalarHalvesSaid : Prop := scalarHalvesRow.holds Tryd.pinned (OpenSpec.ofChange scalarHalvesSpec)

/-- ITS FALSE NEIGHBOUR: 'it returns false'. Refute it at one input. -/
def scalarHalvesWrong : ChangeSpec := { name := "scalarHalves", fn := fun _ => fun
  | [d1, d2] => { results := [.lit (.bool false)], args := [d1, d2] }
  | _ => none }
def ScalarHalvesWrongFalsely : Prop := scalarHalvesRow.holds Tryd.pinned (OpenSpec.ofChange scalarHalvesWrong)

/- THE SECOND FORM. 'bulk': how many values and letters a reading holds, each counted each time it is reached (what is shared counts as often as it is met; a slice's spare places count too). A statement '..UptoSaid' is the law's where the arguments, and the package variables that the reading takes, are together of bulk at most 1048576: NARROWER than '..Said'. Prove '..Said' where nothing that the law and all that it calls make is longer than what came in: it says more and counts as full. Else prove '..UptoSaid'. A law counts once. -/
mutual
def uptoBulk {H : Type} : DataW H → Nat
  | .lit (.string bytes) => bytes.length + 1
  | .lit _ => 1
  | .nil => 1
  | .ptr d => uptoBulk d + 1
  | .slice elems spare => uptoBulkAll elems + uptoBulkAll spare + 1
  | .agg parts => uptoBulkAll parts + 1
  | .iface _ d => uptoBulk d + 1
  | .map entries => uptoBulkEntries entries + 1
  | .held _ => 1
def uptoBulkAll {H : Type} : List (DataW H) → Nat
  | [] => 0
  | d :: r => uptoBulk d + uptoBulkAll r
def uptoBulkEntries {H : Type} : List (Lit × DataW H) → Nat
  | [] => 0
  | x :: r => uptoBulkEntry x + uptoBulkEntries r
def uptoBulkEntry {H : Type} : Lit × DataW H → Nat
  | (.string bytes, d) => bytes.length + uptoBulk d + 1
  | (_, d) => uptoBulk d + 1
 end
def uptoSmall : (H : Type) → List (DataW H) → Bool := fun _ ds => decide (uptoBulkAll ds ≤ 1048576)
def OpenSpec.upto (s : _root_.Go.ChangeSpec) : _root_.Go.OpenSpec := { _root_.Go.OpenSpec.ofChange s with cond := some uptoSmall }

/-- 'sandglasslaw03.ScalarSums', WHERE WHAT IT READS IS OF BULK AT MOST 1048576: true; the input reads as it did. -/
def scalarSumsUptoRow : OpenClaim := { program := "ytdjdociecokilaadoor", sum := "d41bfec32a22bdd514b4ef8872a7f1d9bbb4f55e635b20cac27442fb603b229e", func := "sandglass/sandglasslaw03.ScalarSums", spec := "scalarSums", inPlace := ["math/bits.Add64", "math/bits.Sub64"], named := ["sandglass/scalar.order", "sandglass/scalar.invPower"], apart := false, laid := [("sandglass/scalar.order", laid_sandglass_scalar_order), ("sandglass/scalar.invPower", laid_sandglass_scalar_invPower)], narrowed := true }
def ScalarSumsUptoSaid : Prop := scalarSumsUptoRow.holds Tryd.pinned (OpenSpec.upto scalarSumsSpec)

/-- 'sandglasslaw03.ScalarProducts', WHERE WHAT IT READS IS OF BULK AT MOST 1048576: true; the input reads as it did. -/
def scalarProductsUptoRow : OpenClaim := { program := "ytdjdociecokilaadoor", sum := "d41bfec32a22bdd514b4ef8872a7f1d9bbb4f55e635b20cac27442fb603b229e", func := "sandglass/sandglasslaw03.ScalarProducts", spec := "scalarProducts", inPlace := ["math/bits.Add64", "math/bits.Sub64"], named := ["sandglass/scalar.order", "sandglass/scalar.invPower"], apart := false, laid := [("sandglass/scalar.order", laid_sandglass_scalar_order), ("sandglass/scalar.invPower", laid_sandglass_scalar_invPower)], narrowed := true }
def ScalarProductsUptoSaid : Prop := scalarProductsUptoRow.holds Tryd.pinned (OpenSpec.upto scalarProductsSpec)

/-- 'sandglasslaw03.ScalarInverses', WHERE WHAT IT READS IS OF BULK AT MOST 1048576: true; the input reads as it did. -/
def scalarInversesUptoRow : OpenClaim := { program := "ytdjdociecokilaadoor", sum := "d41bfec32a22bdd514b4ef8872a7f1d9bbb4f55e635b20cac27442fb603b229e", func := "sandglass/sandglasslaw03.ScalarInverses", spec := "scalarInverses", inPlace := ["math/bits.Add64", "math/bits.Sub64"], named := ["sandglass/scalar.invPower", "sandglass/scalar.order"], apart := false, laid := [("sandglass/scalar.order", laid_sandglass_scalar_order), ("sandglass/scalar.invPower", laid_sandglass_scalar_invPower)], narrowed := true }
def ScalarInversesUptoSaid : Prop := scalarInversesUptoRow.holds Tryd.pinned (OpenSpec.upto scalarInversesSpec)

/-- 'sandglasslaw03.ScalarRing', WHERE WHAT IT READS IS OF BULK AT MOST 1048576: true; the input reads as it did. -/
def scalarRingUptoRow : OpenClaim := { program := "ytdjdociecokilaadoor", sum := "d41bfec32a22bdd514b4ef8872a7f1d9bbb4f55e635b20cac27442fb603b229e", func := "sandglass/sandglasslaw03.ScalarRing", spec := "scalarRing", inPlace := ["math/bits.Add64", "math/bits.Sub64"], named := ["sandglass/scalar.order", "sandglass/scalar.invPower"], apart := false, laid := [("sandglass/scalar.order", laid_sandglass_scalar_order), ("sandglass/scalar.invPower", laid_sandglass_scalar_invPower)], narrowed := true }
def ScalarRingUptoSaid : Prop := scalarRingUptoRow.holds Tryd.pinned (OpenSpec.upto scalarRingSpec)

/-- 'sandglasslaw03.ScalarWides', WHERE WHAT IT READS IS OF BULK AT MOST 1048576: true; the input reads as it did. -/
def scalarWidesUptoRow : OpenClaim := { program := "ytdjdociecokilaadoor", sum := "d41bfec32a22bdd514b4ef8872a7f1d9bbb4f55e635b20cac27442fb603b229e", func := "sandglass/sandglasslaw03.ScalarWides", spec := "scalarWides", inPlace := ["math/bits.Add64", "math/bits.Sub64"], named := ["sandglass/scalar.order", "sandglass/scalar.invPower"], apart := false, laid := [("sandglass/scalar.order", laid_sandglass_scalar_order), ("sandglass/scalar.invPower", laid_sandglass_scalar_invPower)], narrowed := true }
def ScalarWidesUptoSaid : Prop := scalarWidesUptoRow.holds Tryd.pinned (OpenSpec.upto scalarWidesSpec)

/-- 'sandglasslaw03.ScalarHalves', WHERE WHAT IT READS IS OF BULK AT MOST 1048576: true; the input reads as it did. -/
def scalarHalvesUptoRow : OpenClaim := { program := "ytdjdociecokilaadoor", sum := "d41bfec32a22bdd514b4ef8872a7f1d9bbb4f55e635b20cac27442fb603b229e", func := "sandglass/sandglasslaw03.ScalarHalves", spec := "scalarHalves", inPlace := ["math/bits.Add64", "math/bits.Sub64"], named := ["sandglass/scalar.order", "sandglass/scalar.invPower"], apart := false, laid := [("sandglass/scalar.order", laid_sandglass_scalar_order), ("sandglass/scalar.invPower", laid_sandglass_scalar_invPower)], narrowed := true }
def ScalarHalvesUptoSaid : Prop := scalarHalvesUptoRow.holds Tryd.pinned (OpenSpec.upto scalarHalvesSpec)

end Rows
end Go.Proofs.YtdjdociecokilaaDoor
