/-
  No cell of these rows narrows 'for every input' (looked for: loops, veiled, ifaces, maps, wideKeys, modest, calm, conditions, laid).
  DERIVED. THE GIVEN ROWS OF THIS SEAT. 4 by the template 'for every input the law returns true; each argument reads behind the call as it read before'; 0 by the template 'total and deterministic' (their statements: YtjgaggmacamgpaaTotals.lean).
  GIVEN WITH THE SEED: the statements are not yours to turn. If you find one false, say at which input.
  Laid BY PROGRAM, IN A SANDBOX (cutbox-rows.mjs): the forced cells as the released guide's own fill.sh prints them over the translation d79aeafd185a670b… (all of the seat's roots in one cut). By AI agents, Wed Nov 11 2026. No macro, syntax, notation, axiom, sorry.
-/
import Derived.Test.YtjgaggmacamgpaaChecked
import GoSem.Claim
import GoSem.ClaimJoined
import GoSem.ClaimMapViews
import Derived.JoinedTies
import Derived.KernelRfl
namespace Go.Proofs.Ytjgaggmacamgpaa
/- THE CELL 'sum', in the pinned program and in every row, IS THE sha256 OF THE DUMP (.gsa) THAT YtjgaggmacamgpaaProg.lean LOADS. Nothing in Lean hashes anything: it is a label: what it is worth is what the hold of that sum in a sandbox is worth. -/
noncomputable def Try.pinned : Pinned := { name := "ytjgaggmacamgpaa", sum := "d79aeafd185a670b61305cd1294d16c5b83494aecbb3dcf921106fcabe5044c0", checked := Try.checked }
namespace Rows
def none {H : Type} : Left H := { results := [], args := [] }

/-- 'sandglasslaw21.VotesPlays': WHATEVER THE INPUT: true; the input reads as it did. -/
def votesPlaysSpec : ChangeSpec := { name := "votesPlays", fn := fun _ => fun
  | [d1, d2, d3] => { results := [.lit (.bool true)], args := [d1, d2, d3] }
  | _ => none }
def votesPlaysRow : OpenClaim := { program := "ytjgaggmacamgpaa", sum := "d79aeafd185a670b61305cd1294d16c5b83494aecbb3dcf921106fcabe5044c0", func := "sandglass/sandglasslaw21.VotesPlays", spec := "votesPlays", unfollowed := true, recurses := true, plainKeys := false, apart := false }
def VotesPlaysSaid : Prop := votesPlaysRow.holds Try.pinned (OpenSpec.ofChange votesPlaysSpec)

/-- ITS FALSE NEIGHBOUR: 'it returns false'. Refute it at one input. -/
def votesPlaysWrong : ChangeSpec := { name := "votesPlays", fn := fun _ => fun
  | [d1, d2, d3] => { results := [.lit (.bool false)], args := [d1, d2, d3] }
  | _ => none }
def VotesPlaysWrongFalsely : Prop := votesPlaysRow.holds Try.pinned (OpenSpec.ofChange votesPlaysWrong)

/-- 'sandglasslaw21.VotesOnce': WHATEVER THE INPUT: true; the input reads as it did. -/
def votesOnceSpec : ChangeSpec := { name := "votesOnce", fn := fun _ => fun
  | [d1, d2, d3] => { results := [.lit (.bool true)], args := [d1, d2, d3] }
  | _ => none }
def votesOnceRow : OpenClaim := { program := "ytjgaggmacamgpaa", sum := "d79aeafd185a670b61305cd1294d16c5b83494aecbb3dcf921106fcabe5044c0", func := "sandglass/sandglasslaw21.VotesOnce", spec := "votesOnce", unfollowed := true, recurses := true, plainKeys := false, apart := false }
def VotesOnceSaid : Prop := votesOnceRow.holds Try.pinned (OpenSpec.ofChange votesOnceSpec)

/-- ITS FALSE NEIGHBOUR: 'it returns false'. Refute it at one input. -/
def votesOnceWrong : ChangeSpec := { name := "votesOnce", fn := fun _ => fun
  | [d1, d2, d3] => { results := [.lit (.bool false)], args := [d1, d2, d3] }
  | _ => none }
def VotesOnceWrongFalsely : Prop := votesOnceRow.holds Try.pinned (OpenSpec.ofChange votesOnceWrong)

/-- 'sandglasslaw21.VotesMost': WHATEVER THE INPUT: true; the input reads as it did. -/
def votesMostSpec : ChangeSpec := { name := "votesMost", fn := fun _ => fun
  | [d1, d2, d3] => { results := [.lit (.bool true)], args := [d1, d2, d3] }
  | _ => none }
def votesMostRow : OpenClaim := { program := "ytjgaggmacamgpaa", sum := "d79aeafd185a670b61305cd1294d16c5b83494aecbb3dcf921106fcabe5044c0", func := "sandglass/sandglasslaw21.VotesMost", spec := "votesMost", unfollowed := true, recurses := true, plainKeys := false, apart := false }
def VotesMostSaid : Prop := votesMostRow.holds Try.pinned (OpenSpec.ofChange votesMostSpec)

/-- ITS FALSE NEIGHBOUR: 'it returns false'. Refute it at one input. -/
def votesMostWrong : ChangeSpec := { name := "votesMost", fn := fun _ => fun
  | [d1, d2, d3] => { results := [.lit (.bool false)], args := [d1, d2, d3] }
  | _ => none }
def VotesMostWrongFalsely : Prop := votesMostRow.holds Try.pinned (OpenSpec.ofChange votesMostWrong)

/-- 'sandglasslaw21.VotesNone': WHATEVER THE INPUT: true; the input reads as it did. -/
def votesNoneSpec : ChangeSpec := { name := "votesNone", fn := fun _ => fun
  | [d] => { results := [.lit (.bool true)], args := [d] }
  | _ => none }
def votesNoneRow : OpenClaim := { program := "ytjgaggmacamgpaa", sum := "d79aeafd185a670b61305cd1294d16c5b83494aecbb3dcf921106fcabe5044c0", func := "sandglass/sandglasslaw21.VotesNone", spec := "votesNone", unfollowed := true, recurses := true, plainKeys := false, apart := false }
def VotesNoneSaid : Prop := votesNoneRow.holds Try.pinned (OpenSpec.ofChange votesNoneSpec)

/-- ITS FALSE NEIGHBOUR: 'it returns false'. Refute it at one input. -/
def votesNoneWrong : ChangeSpec := { name := "votesNone", fn := fun _ => fun
  | [d] => { results := [.lit (.bool false)], args := [d] }
  | _ => none }
def VotesNoneWrongFalsely : Prop := votesNoneRow.holds Try.pinned (OpenSpec.ofChange votesNoneWrong)

/- THE SECOND FORM. 'bulk': how many values and letters a reading holds, each counted each time it is reached (what is shared counts as often as it is met; a slice's spare places count too). A statement '..UptoSaid' is the law's where the arguments, and the package variables that the reading takes, are together of bulk at most 1048576: NARROWER than '..Said'. Prove '..Said' where nothing that the law and all that it calls make is longer than what came in: it says more and counts as full. Else prove '..UptoSaid'. A law counts once. -/
mutual
def uptoBulk {H : Type} : DataW H → Nat
  | .lit (.string bytes) => bytes.length + 1
  | .lit _ => 1
  | .nil => 1
  | .ptr d => uptoBulk d + 1
  | .slice elems spare => uptoBulkAll elems + uptoBulkAll spare + 1
  | .agg parts => uptoBulkAll parts + 1
  | .iface _ d => uptoBulk d + 1
  | .map entries => uptoBulkEntries entries + 1
  | .held _ => 1
def uptoBulkAll {H : Type} : List (DataW H) → Nat
  | [] => 0
  | d :: r => uptoBulk d + uptoBulkAll r
def uptoBulkEntries {H : Type} : List (Lit × DataW H) → Nat
  | [] => 0
  | x :: r => uptoBulkEntry x + uptoBulkEntries r
def uptoBulkEntry {H : Type} : Lit × DataW H → Nat
  | (.string bytes, d) => bytes.length + uptoBulk d + 1
  | (_, d) => uptoBulk d + 1
 end
def uptoSmall : (H : Type) → List (DataW H) → Bool := fun _ ds => decide (uptoBulkAll ds ≤ 1048576)
def OpenSpec.upto (s : _root_.Go.ChangeSpec) : _root_.Go.OpenSpec := { _root_.Go.OpenSpec.ofChange s with cond := some uptoSmall }

/-- 'sandglasslaw21.VotesPlays', WHERE WHAT IT READS IS OF BULK AT MOST 1048576: true; the input reads as it did. -/
def votesPlaysUptoRow : OpenClaim := { program := "ytjgaggmacamgpaa", sum := "d79aeafd185a670b61305cd1294d16c5b83494aecbb3dcf921106fcabe5044c0", func := "sandglass/sandglasslaw21.VotesPlays", spec := "votesPlays", unfollowed := true, recurses := true, plainKeys := false, apart := false, narrowed := true }
def VotesPlaysUptoSaid : Prop := votesPlaysUptoRow.holds Try.pinned (OpenSpec.upto votesPlaysSpec)

/-- 'sandglasslaw21.VotesOnce', WHERE WHAT IT READS IS OF BULK AT MOST 1048576: true; the input reads as it did. -/
def votesOnceUptoRow : OpenClaim := { program := "ytjgaggmacamgpaa", sum := "d79aeafd185a670b61305cd1294d16c5b83494aecbb3dcf921106fcabe5044c0", func := "sandglass/sandglasslaw21.VotesOnce", spec := "votesOnce", unfollowed := true, recurses := true, plainKeys := false, apart := false, narrowed := true }
def VotesOnceUptoSaid : Prop := votesOnceUptoRow.holds Try.pinned (OpenSpec.upto votesOnceSpec)

/-- 'sandglasslaw21.VotesMost', WHERE WHAT IT READS IS OF BULK AT MOST 1048576: true; the input reads as it did. -/
def votesMostUptoRow : OpenClaim := { program := "ytjgaggmacamgpaa", sum := "d79aeafd185a670b61305cd1294d16c5b83494aecbb3dcf921106fcabe5044c0", func := "sandglass/sandglasslaw21.VotesMost", spec := "votesMost", unfollowed := true, recurses := true, plainKeys := false, apart := false, narrowed := true }
def VotesMostUptoSaid : Prop := votesMostUptoRow.holds Try.pinned (OpenSpec.upto votesMostSpec)

/-- 'sandglasslaw21.VotesNone', WHERE WHAT IT READS IS OF BULK AT MOST 1048576: true; the input reads as it did. -/
def votesNoneUptoRow : OpenClaim := { program := "ytjgaggmacamgpaa", sum := "d79aeafd185a670b61305cd1294d16c5b83494aecbb3dcf921106fcabe5044c0", func := "sandglass/sandglasslaw21.VotesNone", spec := "votesNone", unfollowed := true, recurses := true, plainKeys := false, apart := false, narrowed := true }
def VotesNoneUptoSaid : Prop := votesNoneUptoRow.holds Try.pinned (OpenSpec.upto votesNoneSpec)

end Rows
end Go.Proofs.Ytjgaggmacamgpaa
