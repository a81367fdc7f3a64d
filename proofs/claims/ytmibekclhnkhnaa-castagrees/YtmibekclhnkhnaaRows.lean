/-
  No cell of these rows narrows 'for every input' (looked for: loops, veiled, ifaces, maps, wideKeys, modest, calm, conditions, laid).
  DERIVED. THE GIVEN ROWS OF THIS SEAT. 5 by the template 'for every input the law returns true; each argument reads behind the call as it read before'; 0 by the template 'total and deterministic' (their statements: YtmibekclhnkhnaaTotals.lean).
  GIVEN WITH THE SEED: the statements are not yours to turn. If you find one false, say at which input.
  Laid BY PROGRAM, IN A SANDBOX (cutbox-rows.mjs): the forced cells as the released guide's own fill.sh prints them over the translation 7d137e33c07add2e… (all of the seat's roots in one cut). By AI agents, Wed Nov 11 2026. No macro, syntax, notation, axiom, sorry.
-/
import Derived.Test.YtmibekclhnkhnaaChecked
import GoSem.Claim
import GoSem.ClaimJoined
import GoSem.ClaimMapViews
import Derived.JoinedTies
import Derived.KernelRfl
namespace Go.Proofs.Ytmibekclhnkhnaa
/- THE CELL 'sum', in the pinned program and in every row, IS THE sha256 OF THE DUMP (.gsa) THAT YtmibekclhnkhnaaProg.lean LOADS. Nothing in Lean hashes anything: it is a label: what it is worth is what the hold of that sum in a sandbox is worth. -/
noncomputable def Try.pinned : Pinned := { name := "ytmibekclhnkhnaa", sum := "7d137e33c07add2eea3e043b9346e60eb491fa9d29a605d73f8c45649295770b", checked := Try.checked }
namespace Rows
def none {H : Type} : Left H := { results := [], args := [] }

/-- 'sandglasslaw20.CastQuorums': WHATEVER THE INPUT: true; the input reads as it did. -/
def castQuorumsSpec : ChangeSpec := { name := "castQuorums", fn := fun _ => fun
  | [d1, d2] => { results := [.lit (.bool true)], args := [d1, d2] }
  | _ => none }
def castQuorumsRow : OpenClaim := { program := "ytmibekclhnkhnaa", sum := "7d137e33c07add2eea3e043b9346e60eb491fa9d29a605d73f8c45649295770b", func := "sandglass/sandglasslaw20.CastQuorums", spec := "castQuorums", plainKeys := false, apart := false }
def CastQuorumsSaid : Prop := castQuorumsRow.holds Try.pinned (OpenSpec.ofChange castQuorumsSpec)

/-- ITS FALSE NEIGHBOUR: 'it returns false'. Refute it at one input. -/
def castQuorumsWrong : ChangeSpec := { name := "castQuorums", fn := fun _ => fun
  | [d1, d2] => { results := [.lit (.bool false)], args := [d1, d2] }
  | _ => none }
def CastQuorumsWrongFalsely : Prop := castQuorumsRow.holds Try.pinned (OpenSpec.ofChange castQuorumsWrong)

/-- 'sandglasslaw20.CastPlays': WHATEVER THE INPUT: true; the input reads as it did. -/
def castPlaysSpec : ChangeSpec := { name := "castPlays", fn := fun _ => fun
  | [d1, d2] => { results := [.lit (.bool true)], args := [d1, d2] }
  | _ => none }
def castPlaysRow : OpenClaim := { program := "ytmibekclhnkhnaa", sum := "7d137e33c07add2eea3e043b9346e60eb491fa9d29a605d73f8c45649295770b", func := "sandglass/sandglasslaw20.CastPlays", spec := "castPlays", plainKeys := false, apart := false }
def CastPlaysSaid : Prop := castPlaysRow.holds Try.pinned (OpenSpec.ofChange castPlaysSpec)

/-- ITS FALSE NEIGHBOUR: 'it returns false'. Refute it at one input. -/
def castPlaysWrong : ChangeSpec := { name := "castPlays", fn := fun _ => fun
  | [d1, d2] => { results := [.lit (.bool false)], args := [d1, d2] }
  | _ => none }
def CastPlaysWrongFalsely : Prop := castPlaysRow.holds Try.pinned (OpenSpec.ofChange castPlaysWrong)

/-- 'sandglasslaw20.CastOnce': WHATEVER THE INPUT: true; the input reads as it did. -/
def castOnceSpec : ChangeSpec := { name := "castOnce", fn := fun _ => fun
  | [d1, d2] => { results := [.lit (.bool true)], args := [d1, d2] }
  | _ => none }
def castOnceRow : OpenClaim := { program := "ytmibekclhnkhnaa", sum := "7d137e33c07add2eea3e043b9346e60eb491fa9d29a605d73f8c45649295770b", func := "sandglass/sandglasslaw20.CastOnce", spec := "castOnce", plainKeys := false, apart := false }
def CastOnceSaid : Prop := castOnceRow.holds Try.pinned (OpenSpec.ofChange castOnceSpec)

/-- ITS FALSE NEIGHBOUR: 'it returns false'. Refute it at one input. -/
def castOnceWrong : ChangeSpec := { name := "castOnce", fn := fun _ => fun
  | [d1, d2] => { results := [.lit (.bool false)], args := [d1, d2] }
  | _ => none }
def CastOnceWrongFalsely : Prop := castOnceRow.holds Try.pinned (OpenSpec.ofChange castOnceWrong)

/-- 'sandglasslaw20.CastAgrees': WHATEVER THE INPUT: true; the input reads as it did. -/
def castAgreesSpec : ChangeSpec := { name := "castAgrees", fn := fun _ => fun
  | [d1, d2] => { results := [.lit (.bool true)], args := [d1, d2] }
  | _ => none }
def castAgreesRow : OpenClaim := { program := "ytmibekclhnkhnaa", sum := "7d137e33c07add2eea3e043b9346e60eb491fa9d29a605d73f8c45649295770b", func := "sandglass/sandglasslaw20.CastAgrees", spec := "castAgrees", plainKeys := false, apart := false }
def CastAgreesSaid : Prop := castAgreesRow.holds Try.pinned (OpenSpec.ofChange castAgreesSpec)

/-- ITS FALSE NEIGHBOUR: 'it returns false'. Refute it at one input. -/
def castAgreesWrong : ChangeSpec := { name := "castAgrees", fn := fun _ => fun
  | [d1, d2] => { results := [.lit (.bool false)], args := [d1, d2] }
  | _ => none }
def CastAgreesWrongFalsely : Prop := castAgreesRow.holds Try.pinned (OpenSpec.ofChange castAgreesWrong)

/-- 'sandglasslaw20.CastNone': WHATEVER THE INPUT: true; the input reads as it did. -/
def castNoneSpec : ChangeSpec := { name := "castNone", fn := fun _ => fun
  | [d] => { results := [.lit (.bool true)], args := [d] }
  | _ => none }
def castNoneRow : OpenClaim := { program := "ytmibekclhnkhnaa", sum := "7d137e33c07add2eea3e043b9346e60eb491fa9d29a605d73f8c45649295770b", func := "sandglass/sandglasslaw20.CastNone", spec := "castNone", plainKeys := false, apart := false }
def CastNoneSaid : Prop := castNoneRow.holds Try.pinned (OpenSpec.ofChange castNoneSpec)

/-- ITS FALSE NEIGHBOUR: 'it returns false'. Refute it at one input. -/
def castNoneWrong : ChangeSpec := { name := "castNone", fn := fun _ => fun
  | [d] => { results := [.lit (.bool false)], args := [d] }
  | _ => none }
def CastNoneWrongFalsely : Prop := castNoneRow.holds Try.pinned (OpenSpec.ofChange castNoneWrong)

/- THE SECOND FORM. 'bulk': how many values and letters a reading holds, each counted each time it is reached (what is shared counts as often as it is met; a slice's spare places count too). A statement '..UptoSaid' is the law's where the arguments, and the package variables that the reading takes, are together of bulk at most 1048576: NARROWER than '..Said'. Prove '..Said' where nothing that the law and all that it calls make is longer than what came in: it says more and counts as full. Else prove '..UptoSaid'. A law counts once. -/
mutual
def uptoBulk {H : Type} : DataW H → Nat
  | .lit (.string bytes) => bytes.length + 1
  | .lit _ => 1
  | .nil => 1
  | .ptr d => uptoBulk d + 1
  | .slice elems spare => uptoBulkAll elems + uptoBulkAll spare + 1
  | .agg parts => uptoBulkAll parts + 1
  | .iface _ d => uptoBulk d + 1
  | .map entries => uptoBulkEntries entries + 1
  | .held _ => 1
def uptoBulkAll {H : Type} : List (DataW H) → Nat
  | [] => 0
  | d :: r => uptoBulk d + uptoBulkAll r
def uptoBulkEntries {H : Type} : List (Lit × DataW H) → Nat
  | [] => 0
  | x :: r => uptoBulkEntry x + uptoBulkEntries r
def uptoBulkEntry {H : Type} : Lit × DataW H → Nat
  | (.string bytes, d) => bytes.length + uptoBulk d + 1
  | (_, d) => uptoBulk d + 1
 end
def uptoSmall : (H : Type) → List (DataW H) → Bool := fun _ ds => decide (uptoBulkAll ds ≤ 1048576)
def OpenSpec.upto (s : _root_.Go.ChangeSpec) : _root_.Go.OpenSpec := { _root_.Go.OpenSpec.ofChange s with cond := some uptoSmall }

/-- 'sandglasslaw20.CastQuorums', WHERE WHAT IT READS IS OF BULK AT MOST 1048576: true; the input reads as it did. -/
def castQuorumsUptoRow : OpenClaim := { program := "ytmibekclhnkhnaa", sum := "7d137e33c07add2eea3e043b9346e60eb491fa9d29a605d73f8c45649295770b", func := "sandglass/sandglasslaw20.CastQuorums", spec := "castQuorums", plainKeys := false, apart := false, narrowed := true }
def CastQuorumsUptoSaid : Prop := castQuorumsUptoRow.holds Try.pinned (OpenSpec.upto castQuorumsSpec)

/-- 'sandglasslaw20.CastPlays', WHERE WHAT IT READS IS OF BULK AT MOST 1048576: true; the input reads as it did. -/
def castPlaysUptoRow : OpenClaim := { program := "ytmibekclhnkhnaa", sum := "7d137e33c07add2eea3e043b9346e60eb491fa9d29a605d73f8c45649295770b", func := "sandglass/sandglasslaw20.CastPlays", spec := "castPlays", plainKeys := false, apart := false, narrowed := true }
def CastPlaysUptoSaid : Prop := castPlaysUptoRow.holds Try.pinned (OpenSpec.upto castPlaysSpec)

/-- 'sandglasslaw20.CastOnce', WHERE WHAT IT READS IS OF BULK AT MOST 1048576: true; the input reads as it did. -/
def castOnceUptoRow : OpenClaim := { program := "ytmibekclhnkhnaa", sum := "7d137e33c07add2eea3e043b9346e60eb491fa9d29a605d73f8c45649295770b", func := "sandglass/sandglasslaw20.CastOnce", spec := "castOnce", plainKeys := false, apart := false, narrowed := true }
def CastOnceUptoSaid : Prop := castOnceUptoRow.holds Try.pinned (OpenSpec.upto castOnceSpec)

/-- 'sandglasslaw20.CastAgrees', WHERE WHAT IT READS IS OF BULK AT MOST 1048576: true; the input reads as it did. -/
def castAgreesUptoRow : OpenClaim := { program := "ytmibekclhnkhnaa", sum := "7d137e33c07add2eea3e043b9346e60eb491fa9d29a605d73f8c45649295770b", func := "sandglass/sandglasslaw20.CastAgrees", spec := "castAgrees", plainKeys := false, apart := false, narrowed := true }
def CastAgreesUptoSaid : Prop := castAgreesUptoRow.holds Try.pinned (OpenSpec.upto castAgreesSpec)

/-- 'sandglasslaw20.CastNone', WHERE WHAT IT READS IS OF BULK AT MOST 1048576: true; the input reads as it did. -/
def castNoneUptoRow : OpenClaim := { program := "ytmibekclhnkhnaa", sum := "7d137e33c07add2eea3e043b9346e60eb491fa9d29a605d73f8c45649295770b", func := "sandglass/sandglasslaw20.CastNone", spec := "castNone", plainKeys := false, apart := false, narrowed := true }
def CastNoneUptoSaid : Prop := castNoneUptoRow.holds Try.pinned (OpenSpec.upto castNoneSpec)

end Rows
end Go.Proofs.Ytmibekclhnkhnaa
