/-
  NARROWER THAN 'FOR EVERY INPUT', by the rows' own cells (each row's printed sentence says how): FieldSums: laid · FieldRing: laid · FieldSquares: laid.
  DERIVED. THE GIVEN ROWS OF THIS SEAT. 3 by the template 'for every input the law returns true; each argument reads behind the call as it read before'; 0 by the template 'total and deterministic' (their statements: YtmpcoohinppdhaaDoorTotals.lean).
  GIVEN WITH THE SEED: the statements are not yours to turn. If you find one false, say at which input.
  Laid BY PROGRAM, IN A SANDBOX (cutbox-rows.mjs): the forced cells as the released guide's own fill.sh prints them over the translation f0ea9f88a3431c3f… (all of the seat's roots in one cut). By AI agents, Wed Nov 11 2026. No macro, syntax, notation, axiom, sorry.
-/
import Derived.Test.YtmpcoohinppdhaaDoorChecked
import GoSem.Claim
import GoSem.ClaimJoined
import GoSem.ClaimMapViews
import Derived.JoinedTies
import Derived.KernelRfl
namespace Go.Proofs.YtmpcoohinppdhaaDoor
/- THE CELL 'sum', in the pinned program and in every row, IS THE sha256 OF THE DUMP (.gsa) THAT YtmpcoohinppdhaaDoorProg.lean LOADS. Nothing in Lean hashes anything: it is a label: what it is worth is what the hold of that sum in a sandbox is worth. -/
noncomputable def Tryd.pinned : Pinned := { name := "ytmpcoohinppdhaadoor", sum := "f0ea9f88a3431c3fb1b56eedb767b047a8738e687c9210b38da2e02cea03df51", checked := Tryd.checked }
namespace Rows
def none {H : Type} : Left H := { results := [], args := [] }

/- WHAT THE LISTED PACKAGE-LEVEL VARIABLES READ AS WHEN THE CALL BEGINS. Each datum BY PROGRAM (the guide's laid-datum.mjs) off the statement by which the dump's own 'gosem.cut.vars' lays the variable. In a bare row this is a premise. The card (YtmpcoohinppdhaaDoorCards.lean) ties it to the program's text. -/
def laid_sandglass_field_prime {H : Type} : DataW H := .agg [.lit (.int .u64 18446744073709551615), .lit (.int .u64 4294967295), .lit (.int .u64 0), .lit (.int .u64 18446744069414584321)]
def laid_sandglass_field_invPower {H : Type} : DataW H := .agg [.lit (.int .u64 18446744073709551613), .lit (.int .u64 4294967295), .lit (.int .u64 0), .lit (.int .u64 18446744069414584321)]
def laid_sandglass_field_rootPower {H : Type} : DataW H := .agg [.lit (.int .u64 0), .lit (.int .u64 1073741824), .lit (.int .u64 4611686018427387904), .lit (.int .u64 4611686017353646080)]
def laid_sandglass_field_square {H : Type} : DataW H := .agg [.lit (.int .u64 3), .lit (.int .u64 18446744056529682431), .lit (.int .u64 18446744073709551614), .lit (.int .u64 21474836477)]

/-- 'sandglasslaw02.FieldSums': WHATEVER THE INPUT: true; the input reads as it did. -/
def fieldSumsSpec : ChangeSpec := { name := "fieldSums", fn := fun _ => fun
  | [d1, d2] => { results := [.lit (.bool true)], args := [d1, d2] }
  | _ => none }
def fieldSumsRow : OpenClaim := { program := "ytmpcoohinppdhaadoor", sum := "f0ea9f88a3431c3fb1b56eedb767b047a8738e687c9210b38da2e02cea03df51", func := "sandglass/sandglasslaw02.FieldSums", spec := "fieldSums", inPlace := ["math/bits.Add64", "math/bits.Sub64"], named := ["sandglass/field.prime", "sandglass/field.rootPower", "sandglass/field.square", "sandglass/field.invPower"], apart := false, laid := [("sandglass/field.prime", laid_sandglass_field_prime), ("sandglass/field.invPower", laid_sandglass_field_invPower), ("sandglass/field.rootPower", laid_sandglass_field_rootPower), ("sandglass/field.square", laid_sandglass_field_square)] }
def FieldSumsSaid : Prop := fieldSumsRow.holds Tryd.pinned (OpenSpec.ofChange fieldSumsSpec)

/-- ITS FALSE NEIGHBOUR: 'it returns false'. Refute it at one input. -/
def fieldSumsWrong : ChangeSpec := { name := "fieldSums", fn := fun _ => fun
  | [d1, d2] => { results := [.lit (.bool false)], args := [d1, d2] }
  | _ => none }
def FieldSumsWrongFalsely : Prop := fieldSumsRow.holds Tryd.pinned (OpenSpec.ofChange fieldSumsWrong)

/-- 'sandglasslaw02.FieldRing': WHATEVER THE INPUT: true; the input reads as it did. -/
def fieldRingSpec : ChangeSpec := { name := "fieldRing", fn := fun _ => fun
  | [d1, d2, d3] => { results := [.lit (.bool true)], args := [d1, d2, d3] }
  | _ => none }
def fieldRingRow : OpenClaim := { program := "ytmpcoohinppdhaadoor", sum := "f0ea9f88a3431c3fb1b56eedb767b047a8738e687c9210b38da2e02cea03df51", func := "sandglass/sandglasslaw02.FieldRing", spec := "fieldRing", inPlace := ["math/bits.Add64", "math/bits.Sub64"], named := ["sandglass/field.square", "sandglass/field.prime", "sandglass/field.rootPower", "sandglass/field.invPower"], apart := false, laid := [("sandglass/field.prime", laid_sandglass_field_prime), ("sandglass/field.invPower", laid_sandglass_field_invPower), ("sandglass/field.rootPower", laid_sandglass_field_rootPower), ("sandglass/field.square", laid_sandglass_field_square)] }
def FieldRingSaid : Prop := fieldRingRow.holds Tryd.pinned (OpenSpec.ofChange fieldRingSpec)

/-- ITS FALSE NEIGHBOUR: 'it returns false'. Refute it at one input. -/
def fieldRingWrong : ChangeSpec := { name := "fieldRing", fn := fun _ => fun
  | [d1, d2, d3] => { results := [.lit (.bool false)], args := [d1, d2, d3] }
  | _ => none }
def FieldRingWrongFalsely : Prop := fieldRingRow.holds Tryd.pinned (OpenSpec.ofChange fieldRingWrong)

/-- 'sandglasslaw02.FieldSquares': WHATEVER THE INPUT: true; the input reads as it did. -/
def fieldSquaresSpec : ChangeSpec := { name := "fieldSquares", fn := fun _ => fun
  | [d] => { results := [.lit (.bool true)], args := [d] }
  | _ => none }
def fieldSquaresRow : OpenClaim := { program := "ytmpcoohinppdhaadoor", sum := "f0ea9f88a3431c3fb1b56eedb767b047a8738e687c9210b38da2e02cea03df51", func := "sandglass/sandglasslaw02.FieldSquares", spec := "fieldSquares", inPlace := ["math/bits.Add64", "math/bits.Sub64"], named := ["sandglass/field.square", "sandglass/field.rootPower", "sandglass/field.prime", "sandglass/field.invPower"], apart := false, laid := [("sandglass/field.prime", laid_sandglass_field_prime), ("sandglass/field.invPower", laid_sandglass_field_invPower), ("sandglass/field.rootPower", laid_sandglass_field_rootPower), ("sandglass/field.square", laid_sandglass_field_square)] }
def FieldSquaresSaid : Prop := fieldSquaresRow.holds Tryd.pinned (OpenSpec.ofChange fieldSquaresSpec)

/-- ITS FALSE NEIGHBOUR: 'it returns false'. Refute it at one input. -/
def fieldSquaresWrong : ChangeSpec := { name := "fieldSquares", fn := fun _ => fun
  | [d] => { results := [.lit (.bool false)], args := [d] }
  | _ => none }
def FieldSquaresWrongFalsely : Prop := fieldSquaresRow.holds Tryd.pinned (OpenSpec.ofChange fieldSquaresWrong)

/- THE SECOND FORM. 'bulk': how many values and letters a reading holds, each counted each time it is reached (what is shared counts as often as it is met; a slice's spare places count too). A statement '..UptoSaid' is the law's where the arguments, and the package variables that the reading takes, are together of bulk at most 1048576: NARROWER than '..Said'. Prove '..Said' where nothing that the law and all that it calls make is longer than what came in: it says more and counts as full. Else prove '..UptoSaid'. A law counts once. -/
mutual
def uptoBulk {H : Type} : DataW H → Nat
  | .lit (.string bytes) => bytes.length + 1
  | .lit _ => 1
  | .nil => 1
  | .ptr d => uptoBulk d + 1
  | .slice elems spare => uptoBulkAll elems + uptoBulkAll spare + 1
  | .agg parts => uptoBulkAll parts + 1
  | .iface _ d => uptoBulk d + 1
  | .map entries => uptoBulkEntries entries + 1
  | .held _ => 1
def uptoBulkAll {H : Type} : List (DataW H) → Nat
  | [] => 0
  | d :: r => uptoBulk d + uptoBulkAll r
def uptoBulkEntries {H : Type} : List (Lit × DataW H) → Nat
  | [] => 0
  | x :: r => uptoBulkEntry x + uptoBulkEntries r
def uptoBulkEntry {H : Type} : Lit × DataW H → Nat
  | (.string bytes, d) => bytes.length + uptoBulk d + 1
  | (_, d) => uptoBulk d + 1
 end
def uptoSmall : (H : Type) → List (DataW H) → Bool := fun _ ds => decide (uptoBulkAll ds ≤ 1048576)
def OpenSpec.upto (s : _root_.Go.ChangeSpec) : _root_.Go.OpenSpec := { _root_.Go.OpenSpec.ofChange s with cond := some uptoSmall }

/-- 'sandglasslaw02.FieldSums', WHERE WHAT IT READS IS OF BULK AT MOST 1048576: true; the input reads as it did. -/
def fieldSumsUptoRow : OpenClaim := { program := "ytmpcoohinppdhaadoor", sum := "f0ea9f88a3431c3fb1b56eedb767b047a8738e687c9210b38da2e02cea03df51", func := "sandglass/sandglasslaw02.FieldSums", spec := "fieldSums", inPlace := ["math/bits.Add64", "math/bits.Sub64"], named := ["sandglass/field.prime", "sandglass/field.rootPower", "sandglass/field.square", "sandglass/field.invPower"], apart := false, laid := [("sandglass/field.prime", laid_sandglass_field_prime), ("sandglass/field.invPower", laid_sandglass_field_invPower), ("sandglass/field.rootPower", laid_sandglass_field_rootPower), ("sandglass/field.square", laid_sandglass_field_square)], narrowed := true }
def FieldSumsUptoSaid : Prop := fieldSumsUptoRow.holds Tryd.pinned (OpenSpec.upto fieldSumsSpec)

/-- 'sandglasslaw02.FieldRing', WHERE WHAT IT READS IS OF BULK AT MOST 1048576: true; the input reads as it did. -/
def fieldRingUptoRow : OpenClaim := { program := "ytmpcoohinppdhaadoor", sum := "f0ea9f88a3431c3fb1b56eedb767b047a8738e687c9210b38da2e02cea03df51", func := "sandglass/sandglasslaw02.FieldRing", spec := "fieldRing", inPlace := ["math/bits.Add64", "math/bits.Sub64"], named := ["sandglass/field.square", "sandglass/field.prime", "sandglass/field.rootPower", "sandglass/field.invPower"], apart := false, laid := [("sandglass/field.prime", laid_sandglass_field_prime), ("sandglass/field.invPower", laid_sandglass_field_invPower), ("sandglass/field.rootPower", laid_sandglass_field_rootPower), ("sandglass/field.square", laid_sandglass_field_square)], narrowed := true }
def FieldRingUptoSaid : Prop := fieldRingUptoRow.holds Tryd.pinned (OpenSpec.upto fieldRingSpec)

/-- 'sandglasslaw02.FieldSquares', WHERE WHAT IT READS IS OF BULK AT MOST 1048576: true; the input reads as it did. -/
def fieldSquaresUptoRow : OpenClaim := { program := "ytmpcoohinppdhaadoor", sum := "f0ea9f88a3431c3fb1b56eedb767b047a8738e687c9210b38da2e02cea03df51", func := "sandglass/sandglasslaw02.FieldSquares", spec := "fieldSquares", inPlace := ["math/bits.Add64", "math/bits.Sub64"], named := ["sandglass/field.square", "sandglass/field.rootPower", "sandglass/field.prime", "sandglass/field.invPower"], apart := false, laid := [("sandglass/field.prime", laid_sandglass_field_prime), ("sandglass/field.invPower", laid_sandglass_field_invPower), ("sandglass/field.rootPower", laid_sandglass_field_rootPower), ("sandglass/field.square", laid_sandglass_field_square)], narrowed := true }
def FieldSquaresUptoSaid : Prop := fieldSquaresUptoRow.holds Tryd.pinned (OpenSpec.upto fieldSquaresSpec)

end Rows
end Go.Proofs.YtmpcoohinppdhaaDoor
