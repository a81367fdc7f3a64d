/-
  NARROWER THAN 'FOR EVERY INPUT', by the rows' own cells (each row's printed sentence says how): ShamirEvals: laid · ShamirWeights: laid · ShamirJoins: laid · ShamirBack: laid · ShamirHides: laid.
  DERIVED. THE GIVEN ROWS OF THIS SEAT. 5 by the template 'for every input the law returns true; each argument reads behind the call as it read before'; 0 by the template 'total and deterministic' (their statements: YtnaiccfdbapdpaaDoorTotals.lean).
  GIVEN WITH THE SEED: the statements are not yours to turn. If you find one false, say at which input.
  Laid BY PROGRAM, IN A SANDBOX (cutbox-rows.mjs): the forced cells as the released guide's own fill.sh prints them over the translation 27de2ee73a7acdfb… (all of the seat's roots in one cut). By AI agents, Wed Nov 11 2026. No macro, syntax, notation, axiom, sorry.
-/
import Derived.Test.YtnaiccfdbapdpaaDoorChecked
import GoSem.Claim
import GoSem.ClaimJoined
import GoSem.ClaimMapViews
import Derived.JoinedTies
import Derived.KernelRfl
namespace Go.Proofs.YtnaiccfdbapdpaaDoor
/- THE CELL 'sum', in the pinned program and in every row, IS THE sha256 OF THE DUMP (.gsa) THAT YtnaiccfdbapdpaaDoorProg.lean LOADS. Nothing in Lean hashes anything: it is a label: what it is worth is what the hold of that sum in a sandbox is worth. -/
noncomputable def Tryd.pinned : Pinned := { name := "ytnaiccfdbapdpaadoor", sum := "27de2ee73a7acdfb04bfe878a09c7c3943943fcdfadd7f533649088947cd1ec1", checked := Tryd.checked }
namespace Rows
def none {H : Type} : Left H := { results := [], args := [] }

/- WHAT THE LISTED PACKAGE-LEVEL VARIABLES READ AS WHEN THE CALL BEGINS. Each datum BY PROGRAM (the guide's laid-datum.mjs) off the statement by which the dump's own 'gosem.cut.vars' lays the variable. In a bare row this is a premise. The card (YtnaiccfdbapdpaaDoorCards.lean) ties it to the program's text. -/
def laid_sandglass_scalar_order {H : Type} : DataW H := .agg [.lit (.int .u64 17562291160714782033), .lit (.int .u64 13611842547513532036), .lit (.int .u64 18446744073709551615), .lit (.int .u64 18446744069414584320)]
def laid_sandglass_scalar_invPower {H : Type} : DataW H := .agg [.lit (.int .u64 17562291160714782031), .lit (.int .u64 13611842547513532036), .lit (.int .u64 18446744073709551615), .lit (.int .u64 18446744069414584320)]

/-- 'sandglasslaw13.ShamirEvals': WHATEVER THE INPUT: true; the input reads as it did. -/
def shamirEvalsSpec : ChangeSpec := { name := "shamirEvals", fn := fun _ => fun
  | [d1, d2, d3] => { results := [.lit (.bool true)], args := [d1, d2, d3] }
  | _ => none }
def shamirEvalsRow : OpenClaim := { program := "ytnaiccfdbapdpaadoor", sum := "27de2ee73a7acdfb04bfe878a09c7c3943943fcdfadd7f533649088947cd1ec1", func := "sandglass/sandglasslaw13.ShamirEvals", spec := "shamirEvals", inPlace := ["math/bits.Add64", "math/bits.Sub64"], unfollowed := true, recurses := true, named := ["sandglass/scalar.order", "sandglass/scalar.invPower"], apart := false, laid := [("sandglass/scalar.order", laid_sandglass_scalar_order), ("sandglass/scalar.invPower", laid_sandglass_scalar_invPower)] }
def ShamirEvalsSaid : Prop := shamirEvalsRow.holds Tryd.pinned (OpenSpec.ofChange shamirEvalsSpec)

/-- ITS FALSE NEIGHBOUR: 'it returns false'. Refute it at one input. -/
def shamirEvalsWrong : ChangeSpec := { name := "shamirEvals", fn := fun _ => fun
  | [d1, d2, d3] => { results := [.lit (.bool false)], args := [d1, d2, d3] }
  | _ => none }
def ShamirEvalsWrongFalsely : Prop := shamirEvalsRow.holds Tryd.pinned (OpenSpec.ofChange shamirEvalsWrong)

/-- 'sandglasslaw13.ShamirWeights': WHATEVER THE INPUT: true; the input reads as it did. -/
def shamirWeightsSpec : ChangeSpec := { name := "shamirWeights", fn := fun _ => fun
  | [d] => { results := [.lit (.bool true)], args := [d] }
  | _ => none }
def shamirWeightsRow : OpenClaim := { program := "ytnaiccfdbapdpaadoor", sum := "27de2ee73a7acdfb04bfe878a09c7c3943943fcdfadd7f533649088947cd1ec1", func := "sandglass/sandglasslaw13.ShamirWeights", spec := "shamirWeights", inPlace := ["math/bits.Add64", "math/bits.Sub64"], unfollowed := true, recurses := true, named := ["sandglass/scalar.order", "sandglass/scalar.invPower"], apart := false, laid := [("sandglass/scalar.order", laid_sandglass_scalar_order), ("sandglass/scalar.invPower", laid_sandglass_scalar_invPower)] }
def ShamirWeightsSaid : Prop := shamirWeightsRow.holds Tryd.pinned (OpenSpec.ofChange shamirWeightsSpec)

/-- ITS FALSE NEIGHBOUR: 'it returns false'. Refute it at one input. -/
def shamirWeightsWrong : ChangeSpec := { name := "shamirWeights", fn := fun _ => fun
  | [d] => { results := [.lit (.bool false)], args := [d] }
  | _ => none }
def ShamirWeightsWrongFalsely : Prop := shamirWeightsRow.holds Tryd.pinned (OpenSpec.ofChange shamirWeightsWrong)

/-- 'sandglasslaw13.ShamirJoins': WHATEVER THE INPUT: true; the input reads as it did. -/
def shamirJoinsSpec : ChangeSpec := { name := "shamirJoins", fn := fun _ => fun
  | [d] => { results := [.lit (.bool true)], args := [d] }
  | _ => none }
def shamirJoinsRow : OpenClaim := { program := "ytnaiccfdbapdpaadoor", sum := "27de2ee73a7acdfb04bfe878a09c7c3943943fcdfadd7f533649088947cd1ec1", func := "sandglass/sandglasslaw13.ShamirJoins", spec := "shamirJoins", inPlace := ["math/bits.Add64", "math/bits.Sub64"], unfollowed := true, recurses := true, named := ["sandglass/scalar.order", "sandglass/scalar.invPower"], apart := false, laid := [("sandglass/scalar.order", laid_sandglass_scalar_order), ("sandglass/scalar.invPower", laid_sandglass_scalar_invPower)] }
def ShamirJoinsSaid : Prop := shamirJoinsRow.holds Tryd.pinned (OpenSpec.ofChange shamirJoinsSpec)

/-- ITS FALSE NEIGHBOUR: 'it returns false'. Refute it at one input. -/
def shamirJoinsWrong : ChangeSpec := { name := "shamirJoins", fn := fun _ => fun
  | [d] => { results := [.lit (.bool false)], args := [d] }
  | _ => none }
def ShamirJoinsWrongFalsely : Prop := shamirJoinsRow.holds Tryd.pinned (OpenSpec.ofChange shamirJoinsWrong)

/-- 'sandglasslaw13.ShamirBack': WHATEVER THE INPUT: true; the input reads as it did. -/
def shamirBackSpec : ChangeSpec := { name := "shamirBack", fn := fun _ => fun
  | [d1, d2] => { results := [.lit (.bool true)], args := [d1, d2] }
  | _ => none }
def shamirBackRow : OpenClaim := { program := "ytnaiccfdbapdpaadoor", sum := "27de2ee73a7acdfb04bfe878a09c7c3943943fcdfadd7f533649088947cd1ec1", func := "sandglass/sandglasslaw13.ShamirBack", spec := "shamirBack", inPlace := ["math/bits.Add64", "math/bits.Sub64"], unfollowed := true, recurses := true, named := ["sandglass/scalar.order", "sandglass/scalar.invPower"], apart := false, laid := [("sandglass/scalar.order", laid_sandglass_scalar_order), ("sandglass/scalar.invPower", laid_sandglass_scalar_invPower)] }
def ShamirBackSaid : Prop := shamirBackRow.holds Tryd.pinned (OpenSpec.ofChange shamirBackSpec)

/-- ITS FALSE NEIGHBOUR: 'it returns false'. Refute it at one input. -/
def shamirBackWrong : ChangeSpec := { name := "shamirBack", fn := fun _ => fun
  | [d1, d2] => { results := [.lit (.bool false)], args := [d1, d2] }
  | _ => none }
def ShamirBackWrongFalsely : Prop := shamirBackRow.holds Tryd.pinned (OpenSpec.ofChange shamirBackWrong)

/-- 'sandglasslaw13.ShamirHides': WHATEVER THE INPUT: true; the input reads as it did. -/
def shamirHidesSpec : ChangeSpec := { name := "shamirHides", fn := fun _ => fun
  | [d1, d2] => { results := [.lit (.bool true)], args := [d1, d2] }
  | _ => none }
def shamirHidesRow : OpenClaim := { program := "ytnaiccfdbapdpaadoor", sum := "27de2ee73a7acdfb04bfe878a09c7c3943943fcdfadd7f533649088947cd1ec1", func := "sandglass/sandglasslaw13.ShamirHides", spec := "shamirHides", inPlace := ["math/bits.Add64", "math/bits.Sub64"], unfollowed := true, recurses := true, named := ["sandglass/scalar.order", "sandglass/scalar.invPower"], apart := false, laid := [("sandglass/scalar.order", laid_sandglass_scalar_order), ("sandglass/scalar.invPower", laid_sandglass_scalar_invPower)] }
def ShamirHidesSaid : Prop := shamirHidesRow.holds Tryd.pinned (OpenSpec.ofChange shamirHidesSpec)

/-- ITS FALSE NEIGHBOUR: 'it returns false'. Refute it at one input. -/
def shamirHidesWrong : ChangeSpec := { name := "shamirHides", fn := fun _ => fun
  | [d1, d2] => { results := [.lit (.bool false)], args := [d1, d2] }
  | _ => none }
def ShamirHidesWrongFalsely : Prop := shamirHidesRow.holds Tryd.pinned (OpenSpec.ofChange shamirHidesWrong)

/- THE SECOND FORM. 'bulk': how many values and letters a reading holds, each counted each time it is reached (what is shared counts as often as it is met; a slice's spare places count too). A statement '..UptoSaid' is the law's where the arguments, and the package variables that the reading takes, are together of bulk at most 1048576: NARROWER than '..Said'. Prove '..Said' where nothing that the law and all that it calls make is longer than what came in: it says more and counts as full. Else prove '..UptoSaid'. A law counts once. -/
mutual
def uptoBulk {H : Type} : DataW H → Nat
  | .lit (.string bytes) => bytes.length + 1
  | .lit _ => 1
  | .nil => 1
  | .ptr d => uptoBulk d + 1
  | .slice elems spare => uptoBulkAll elems + uptoBulkAll spare + 1
  | .agg parts => uptoBulkAll parts + 1
  | .iface _ d => uptoBulk d + 1
  | .map entries => uptoBulkEntries entries + 1
  | .held _ => 1
def uptoBulkAll {H : Type} : List (DataW H) → Nat
  | [] => 0
  | d :: r => uptoBulk d + uptoBulkAll r
def uptoBulkEntries {H : Type} : List (Lit × DataW H) → Nat
  | [] => 0
  | x :: r => uptoBulkEntry x + uptoBulkEntries r
def uptoBulkEntry {H : Type} : Lit × DataW H → Nat
  | (.string bytes, d) => bytes.length + uptoBulk d + 1
  | (_, d) => uptoBulk d + 1
 end
def uptoSmall : (H : Type) → List (DataW H) → Bool := fun _ ds => decide (uptoBulkAll ds ≤ 1048576)
def OpenSpec.upto (s : _root_.Go.ChangeSpec) : _root_.Go.OpenSpec := { _root_.Go.OpenSpec.ofChange s with cond := some uptoSmall }

/-- 'sandglasslaw13.ShamirEvals', WHERE WHAT IT READS IS OF BULK AT MOST 1048576: true; the input reads as it did. -/
def shamirEvalsUptoRow : OpenClaim := { program := "ytnaiccfdbapdpaadoor", sum := "27de2ee73a7acdfb04bfe878a09c7c3943943fcdfadd7f533649088947cd1ec1", func := "sandglass/sandglasslaw13.ShamirEvals", spec := "shamirEvals", inPlace := ["math/bits.Add64", "math/bits.Sub64"], unfollowed := true, recurses := true, named := ["sandglass/scalar.order", "sandglass/scalar.invPower"], apart := false, laid := [("sandglass/scalar.order", laid_sandglass_scalar_order), ("sandglass/scalar.invPower", laid_sandglass_scalar_invPower)], narrowed := true }
def ShamirEvalsUptoSaid : Prop := shamirEvalsUptoRow.holds Tryd.pinned (OpenSpec.upto shamirEvalsSpec)

/-- 'sandglasslaw13.ShamirWeights', WHERE WHAT IT READS IS OF BULK AT MOST 1048576: true; the input reads as it did. -/
def shamirWeightsUptoRow : OpenClaim := { program := "ytnaiccfdbapdpaadoor", sum := "27de2ee73a7acdfb04bfe878a09c7c3943943fcdfadd7f533649088947cd1ec1", func := "sandglass/sandglasslaw13.ShamirWeights", spec := "shamirWeights", inPlace := ["math/bits.Add64", "math/bits.Sub64"], unfollowed := true, recurses := true, named := ["sandglass/scalar.order", "sandglass/scalar.invPower"], apart := false, laid := [("sandglass/scalar.order", laid_sandglass_scalar_order), ("sandglass/scalar.invPower", laid_sandglass_scalar_invPower)], narrowed := true }
def ShamirWeightsUptoSaid : Prop := shamirWeightsUptoRow.holds Tryd.pinned (OpenSpec.upto shamirWeightsSpec)

/-- 'sandglasslaw13.ShamirJoins', WHERE WHAT IT READS IS OF BULK AT MOST 1048576: true; the input reads as it did. -/
def shamirJoinsUptoRow : OpenClaim := { program := "ytnaiccfdbapdpaadoor", sum := "27de2ee73a7acdfb04bfe878a09c7c3943943fcdfadd7f533649088947cd1ec1", func := "sandglass/sandglasslaw13.ShamirJoins", spec := "shamirJoins", inPlace := ["math/bits.Add64", "math/bits.Sub64"], unfollowed := true, recurses := true, named := ["sandglass/scalar.order", "sandglass/scalar.invPower"], apart := false, laid := [("sandglass/scalar.order", laid_sandglass_scalar_order), ("sandglass/scalar.invPower", laid_sandglass_scalar_invPower)], narrowed := true }
def ShamirJoinsUptoSaid : Prop := shamirJoinsUptoRow.holds Tryd.pinned (OpenSpec.upto shamirJoinsSpec)

/-- 'sandglasslaw13.ShamirBack', WHERE WHAT IT READS IS OF BULK AT MOST 1048576: true; the input reads as it did. -/
def shamirBackUptoRow : OpenClaim := { program := "ytnaiccfdbapdpaadoor", sum := "27de2ee73a7acdfb04bfe878a09c7c3943943fcdfadd7f533649088947cd1ec1", func := "sandglass/sandglasslaw13.ShamirBack", spec := "shamirBack", inPlace := ["math/bits.Add64", "math/bits.Sub64"], unfollowed := true, recurses := true, named := ["sandglass/scalar.order", "sandglass/scalar.invPower"], apart := false, laid := [("sandglass/scalar.order", laid_sandglass_scalar_order), ("sandglass/scalar.invPower", laid_sandglass_scalar_invPower)], narrowed := true }
def ShamirBackUptoSaid : Prop := shamirBackUptoRow.holds Tryd.pinned (OpenSpec.upto shamirBackSpec)

/-- 'sandglasslaw13.ShamirHides', WHERE WHAT IT READS IS OF BULK AT MOST 1048576: true; the input reads as it did. -/
def shamirHidesUptoRow : OpenClaim := { program := "ytnaiccfdbapdpaadoor", sum := "27de2ee73a7acdfb04bfe878a09c7c3943943fcdfadd7f533649088947cd1ec1", func := "sandglass/sandglasslaw13.ShamirHides", spec := "shamirHides", inPlace := ["math/bits.Add64", "math/bits.Sub64"], unfollowed := true, recurses := true, named := ["sandglass/scalar.order", "sandglass/scalar.invPower"], apart := false, laid := [("sandglass/scalar.order", laid_sandglass_scalar_order), ("sandglass/scalar.invPower", laid_sandglass_scalar_invPower)], narrowed := true }
def ShamirHidesUptoSaid : Prop := shamirHidesUptoRow.holds Tryd.pinned (OpenSpec.upto shamirHidesSpec)

end Rows
end Go.Proofs.YtnaiccfdbapdpaaDoor
