/-
  No cell of these rows narrows 'for every input' (looked for: loops, veiled, ifaces, maps, wideKeys, modest, calm, conditions, laid).
  DERIVED. THE GIVEN ROWS OF THIS SEAT. 4 by the template 'for every input the law returns true; each argument reads behind the call as it read before'; 0 by the template 'total and deterministic' (their statements: YtkfpmjepeikpjaaTotals.lean).
  GIVEN WITH THE SEED: the statements are not yours to turn. If you find one false, say at which input.
  Laid BY PROGRAM, IN A SANDBOX (cutbox-rows.mjs): the forced cells as the released guide's own fill.sh prints them over the translation 26818a27ed70e583… (all of the seat's roots in one cut). By AI agents, Wed Nov 11 2026. No macro, syntax, notation, axiom, sorry.
-/
import Derived.Test.YtkfpmjepeikpjaaChecked
import GoSem.Claim
import GoSem.ClaimJoined
import GoSem.ClaimMapViews
import Derived.JoinedTies
import Derived.KernelRfl
namespace Go.Proofs.Ytkfpmjepeikpjaa
/- THE CELL 'sum', in the pinned program and in every row, IS THE sha256 OF THE DUMP (.gsa) THAT YtkfpmjepeikpjaaProg.lean LOADS. Nothing in Lean hashes anything: it is a label: what it is worth is what the hold of that sum in a sandbox is worth. -/
noncomputable def Try.pinned : Pinned := { name := "ytkfpmjepeikpjaa", sum := "26818a27ed70e58374ebffc2193305b5f48c63c5f8dfa62af5667da12826b6a4", checked := Try.checked }
namespace Rows
def none {H : Type} : Left H := { results := [], args := [] }

/-- 'sandglasslaw23.CouncilAgrees': WHATEVER THE INPUT: true; the input reads as it did. -/
def councilAgreesSpec : ChangeSpec := { name := "councilAgrees", fn := fun _ => fun
  | [d1, d2] => { results := [.lit (.bool true)], args := [d1, d2] }
  | _ => none }
def councilAgreesRow : OpenClaim := { program := "ytkfpmjepeikpjaa", sum := "26818a27ed70e58374ebffc2193305b5f48c63c5f8dfa62af5667da12826b6a4", func := "sandglass/sandglasslaw23.CouncilAgrees", spec := "councilAgrees", unfollowed := true, recurses := true, plainKeys := false, apart := false }
def CouncilAgreesSaid : Prop := councilAgreesRow.holds Try.pinned (OpenSpec.ofChange councilAgreesSpec)

/-- ITS FALSE NEIGHBOUR: 'it returns false'. Refute it at one input. -/
def councilAgreesWrong : ChangeSpec := { name := "councilAgrees", fn := fun _ => fun
  | [d1, d2] => { results := [.lit (.bool false)], args := [d1, d2] }
  | _ => none }
def CouncilAgreesWrongFalsely : Prop := councilAgreesRow.holds Try.pinned (OpenSpec.ofChange councilAgreesWrong)

/-- 'sandglasslaw23.CouncilValid': WHATEVER THE INPUT: true; the input reads as it did. -/
def councilValidSpec : ChangeSpec := { name := "councilValid", fn := fun _ => fun
  | [d1, d2] => { results := [.lit (.bool true)], args := [d1, d2] }
  | _ => none }
def councilValidRow : OpenClaim := { program := "ytkfpmjepeikpjaa", sum := "26818a27ed70e58374ebffc2193305b5f48c63c5f8dfa62af5667da12826b6a4", func := "sandglass/sandglasslaw23.CouncilValid", spec := "councilValid", unfollowed := true, recurses := true, plainKeys := false, apart := false }
def CouncilValidSaid : Prop := councilValidRow.holds Try.pinned (OpenSpec.ofChange councilValidSpec)

/-- ITS FALSE NEIGHBOUR: 'it returns false'. Refute it at one input. -/
def councilValidWrong : ChangeSpec := { name := "councilValid", fn := fun _ => fun
  | [d1, d2] => { results := [.lit (.bool false)], args := [d1, d2] }
  | _ => none }
def CouncilValidWrongFalsely : Prop := councilValidRow.holds Try.pinned (OpenSpec.ofChange councilValidWrong)

/-- 'sandglasslaw23.CouncilCalm': WHATEVER THE INPUT: true; the input reads as it did. -/
def councilCalmSpec : ChangeSpec := { name := "councilCalm", fn := fun _ => fun
  | [d] => { results := [.lit (.bool true)], args := [d] }
  | _ => none }
def councilCalmRow : OpenClaim := { program := "ytkfpmjepeikpjaa", sum := "26818a27ed70e58374ebffc2193305b5f48c63c5f8dfa62af5667da12826b6a4", func := "sandglass/sandglasslaw23.CouncilCalm", spec := "councilCalm", unfollowed := true, recurses := true, plainKeys := false, apart := false }
def CouncilCalmSaid : Prop := councilCalmRow.holds Try.pinned (OpenSpec.ofChange councilCalmSpec)

/-- ITS FALSE NEIGHBOUR: 'it returns false'. Refute it at one input. -/
def councilCalmWrong : ChangeSpec := { name := "councilCalm", fn := fun _ => fun
  | [d] => { results := [.lit (.bool false)], args := [d] }
  | _ => none }
def CouncilCalmWrongFalsely : Prop := councilCalmRow.holds Try.pinned (OpenSpec.ofChange councilCalmWrong)

/-- 'sandglasslaw23.CouncilNone': WHATEVER THE INPUT: true; the input reads as it did. -/
def councilNoneSpec : ChangeSpec := { name := "councilNone", fn := fun _ => fun
  | [d] => { results := [.lit (.bool true)], args := [d] }
  | _ => none }
def councilNoneRow : OpenClaim := { program := "ytkfpmjepeikpjaa", sum := "26818a27ed70e58374ebffc2193305b5f48c63c5f8dfa62af5667da12826b6a4", func := "sandglass/sandglasslaw23.CouncilNone", spec := "councilNone", unfollowed := true, recurses := true, plainKeys := false, apart := false }
def CouncilNoneSaid : Prop := councilNoneRow.holds Try.pinned (OpenSpec.ofChange councilNoneSpec)

/-- ITS FALSE NEIGHBOUR: 'it returns false'. Refute it at one input. -/
def councilNoneWrong : ChangeSpec := { name := "councilNone", fn := fun _ => fun
  | [d] => { results := [.lit (.bool false)], args := [d] }
  | _ => none }
def CouncilNoneWrongFalsely : Prop := councilNoneRow.holds Try.pinned (OpenSpec.ofChange councilNoneWrong)

/- THE SECOND FORM. 'bulk': how many values and letters a reading holds, each counted each time it is reached (what is shared counts as often as it is met; a slice's spare places count too). A statement '..UptoSaid' is the law's where the arguments, and the package variables that the reading takes, are together of bulk at most 1048576: NARROWER than '..Said'. Prove '..Said' where nothing that the law and all that it calls make is longer than what came in: it says more and counts as full. Else prove '..UptoSaid'. A law counts once. -/
mutual
def uptoBulk {H : Type} : DataW H → Nat
  | .lit (.string bytes) => bytes.length + 1
  | .lit _ => 1
  | .nil => 1
  | .ptr d => uptoBulk d + 1
  | .slice elems spare => uptoBulkAll elems + uptoBulkAll spare + 1
  | .agg parts => uptoBulkAll parts + 1
  | .iface _ d => uptoBulk d + 1
  | .map entries => uptoBulkEntries entries + 1
  | .held _ => 1
def uptoBulkAll {H : Type} : List (DataW H) → Nat
  | [] => 0
  | d :: r => uptoBulk d + uptoBulkAll r
def uptoBulkEntries {H : Type} : List (Lit × DataW H) → Nat
  | [] => 0
  | x :: r => uptoBulkEntry x + uptoBulkEntries r
def uptoBulkEntry {H : Type} : Lit × DataW H → Nat
  | (.string bytes, d) => bytes.length + uptoBulk d + 1
  | (_, d) => uptoBulk d + 1
 end
def uptoSmall : (H : Type) → List (DataW H) → Bool := fun _ ds => decide (uptoBulkAll ds ≤ 1048576)
def OpenSpec.upto (s : _root_.Go.ChangeSpec) : _root_.Go.OpenSpec := { _root_.Go.OpenSpec.ofChange s with cond := some uptoSmall }

/-- 'sandglasslaw23.CouncilAgrees', WHERE WHAT IT READS IS OF BULK AT MOST 1048576: true; the input reads as it did. -/
def councilAgreesUptoRow : OpenClaim := { program := "ytkfpmjepeikpjaa", sum := "26818a27ed70e58374ebffc2193305b5f48c63c5f8dfa62af5667da12826b6a4", func := "sandglass/sandglasslaw23.CouncilAgrees", spec := "councilAgrees", unfollowed := true, recurses := true, plainKeys := false, apart := false, narrowed := true }
def CouncilAgreesUptoSaid : Prop := councilAgreesUptoRow.holds Try.pinned (OpenSpec.upto councilAgreesSpec)

/-- 'sandglasslaw23.CouncilValid', WHERE WHAT IT READS IS OF BULK AT MOST 1048576: true; the input reads as it did. -/
def councilValidUptoRow : OpenClaim := { program := "ytkfpmjepeikpjaa", sum := "26818a27ed70e58374ebffc2193305b5f48c63c5f8dfa62af5667da12826b6a4", func := "sandglass/sandglasslaw23.CouncilValid", spec := "councilValid", unfollowed := true, recurses := true, plainKeys := false, apart := false, narrowed := true }
def CouncilValidUptoSaid : Prop := councilValidUptoRow.holds Try.pinned (OpenSpec.upto councilValidSpec)

/-- 'sandglasslaw23.CouncilCalm', WHERE WHAT IT READS IS OF BULK AT MOST 1048576: true; the input reads as it did. -/
def councilCalmUptoRow : OpenClaim := { program := "ytkfpmjepeikpjaa", sum := "26818a27ed70e58374ebffc2193305b5f48c63c5f8dfa62af5667da12826b6a4", func := "sandglass/sandglasslaw23.CouncilCalm", spec := "councilCalm", unfollowed := true, recurses := true, plainKeys := false, apart := false, narrowed := true }
def CouncilCalmUptoSaid : Prop := councilCalmUptoRow.holds Try.pinned (OpenSpec.upto councilCalmSpec)

/-- 'sandglasslaw23.CouncilNone', WHERE WHAT IT READS IS OF BULK AT MOST 1048576: true; the input reads as it did. -/
def councilNoneUptoRow : OpenClaim := { program := "ytkfpmjepeikpjaa", sum := "26818a27ed70e58374ebffc2193305b5f48c63c5f8dfa62af5667da12826b6a4", func := "sandglass/sandglasslaw23.CouncilNone", spec := "councilNone", unfollowed := true, recurses := true, plainKeys := false, apart := false, narrowed := true }
def CouncilNoneUptoSaid : Prop := councilNoneUptoRow.holds Try.pinned (OpenSpec.upto councilNoneSpec)

end Rows
end Go.Proofs.Ytkfpmjepeikpjaa
