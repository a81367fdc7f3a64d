/-
  No cell of these rows narrows 'for every input' (looked for: loops, veiled, ifaces, maps, wideKeys, modest, calm, conditions, laid).
  DERIVED. THE GIVEN ROWS OF THIS SEAT. 5 by the template 'for every input the law returns true; each argument reads behind the call as it read before'; 0 by the template 'total and deterministic' (their statements: YtdpplmfgbglkhaaTotals.lean).
  GIVEN WITH THE SEED: the statements are not yours to turn. If you find one false, say at which input.
  Laid BY PROGRAM, IN A SANDBOX (cutbox-rows.mjs): the forced cells as the released guide's own fill.sh prints them over the translation 4a59352a8ddbd683… (all of the seat's roots in one cut). By AI agents, Wed Nov 11 2026. No macro, syntax, notation, axiom, sorry.
-/
import Derived.Test.YtdpplmfgbglkhaaChecked
import GoSem.Claim
import GoSem.ClaimJoined
import GoSem.ClaimMapViews
import Derived.JoinedTies
import Derived.KernelRfl
namespace Go.Proofs.Ytdpplmfgbglkhaa
/- THE CELL 'sum', in the pinned program and in every row, IS THE sha256 OF THE DUMP (.gsa) THAT YtdpplmfgbglkhaaProg.lean LOADS. Nothing in Lean hashes anything: it is a label: what it is worth is what the hold of that sum in a sandbox is worth. -/
noncomputable def Try.pinned : Pinned := { name := "ytdpplmfgbglkhaa", sum := "4a59352a8ddbd68312ebdff0fc3d342708643a58abd6dd15414c07c15b969bb7", checked := Try.checked }
namespace Rows
def none {H : Type} : Left H := { results := [], args := [] }

/-- 'sandglasslaw26.ReleasePlays': WHATEVER THE INPUT: true; the input reads as it did. -/
def releasePlaysSpec : ChangeSpec := { name := "releasePlays", fn := fun _ => fun
  | [d1, d2, d3] => { results := [.lit (.bool true)], args := [d1, d2, d3] }
  | _ => none }
def releasePlaysRow : OpenClaim := { program := "ytdpplmfgbglkhaa", sum := "4a59352a8ddbd68312ebdff0fc3d342708643a58abd6dd15414c07c15b969bb7", func := "sandglass/sandglasslaw26.ReleasePlays", spec := "releasePlays", unfollowed := true, recurses := true, apart := false }
def ReleasePlaysSaid : Prop := releasePlaysRow.holds Try.pinned (OpenSpec.ofChange releasePlaysSpec)

/-- ITS FALSE NEIGHBOUR: 'it returns false'. Refute it at one input. -/
def releasePlaysWrong : ChangeSpec := { name := "releasePlays", fn := fun _ => fun
  | [d1, d2, d3] => { results := [.lit (.bool false)], args := [d1, d2, d3] }
  | _ => none }
def ReleasePlaysWrongFalsely : Prop := releasePlaysRow.holds Try.pinned (OpenSpec.ofChange releasePlaysWrong)

/-- 'sandglasslaw26.ReleaseEarly': WHATEVER THE INPUT: true; the input reads as it did. -/
def releaseEarlySpec : ChangeSpec := { name := "releaseEarly", fn := fun _ => fun
  | [d1, d2, d3] => { results := [.lit (.bool true)], args := [d1, d2, d3] }
  | _ => none }
def releaseEarlyRow : OpenClaim := { program := "ytdpplmfgbglkhaa", sum := "4a59352a8ddbd68312ebdff0fc3d342708643a58abd6dd15414c07c15b969bb7", func := "sandglass/sandglasslaw26.ReleaseEarly", spec := "releaseEarly", unfollowed := true, recurses := true, apart := false }
def ReleaseEarlySaid : Prop := releaseEarlyRow.holds Try.pinned (OpenSpec.ofChange releaseEarlySpec)

/-- ITS FALSE NEIGHBOUR: 'it returns false'. Refute it at one input. -/
def releaseEarlyWrong : ChangeSpec := { name := "releaseEarly", fn := fun _ => fun
  | [d1, d2, d3] => { results := [.lit (.bool false)], args := [d1, d2, d3] }
  | _ => none }
def ReleaseEarlyWrongFalsely : Prop := releaseEarlyRow.holds Try.pinned (OpenSpec.ofChange releaseEarlyWrong)

/-- 'sandglasslaw26.ReleaseOrder': WHATEVER THE INPUT: true; the input reads as it did. -/
def releaseOrderSpec : ChangeSpec := { name := "releaseOrder", fn := fun _ => fun
  | [d1, d2] => { results := [.lit (.bool true)], args := [d1, d2] }
  | _ => none }
def releaseOrderRow : OpenClaim := { program := "ytdpplmfgbglkhaa", sum := "4a59352a8ddbd68312ebdff0fc3d342708643a58abd6dd15414c07c15b969bb7", func := "sandglass/sandglasslaw26.ReleaseOrder", spec := "releaseOrder", unfollowed := true, recurses := true, apart := false }
def ReleaseOrderSaid : Prop := releaseOrderRow.holds Try.pinned (OpenSpec.ofChange releaseOrderSpec)

/-- ITS FALSE NEIGHBOUR: 'it returns false'. Refute it at one input. -/
def releaseOrderWrong : ChangeSpec := { name := "releaseOrder", fn := fun _ => fun
  | [d1, d2] => { results := [.lit (.bool false)], args := [d1, d2] }
  | _ => none }
def ReleaseOrderWrongFalsely : Prop := releaseOrderRow.holds Try.pinned (OpenSpec.ofChange releaseOrderWrong)

/-- 'sandglasslaw26.ReleaseStays': WHATEVER THE INPUT: true; the input reads as it did. -/
def releaseStaysSpec : ChangeSpec := { name := "releaseStays", fn := fun _ => fun
  | [d1, d2, d3] => { results := [.lit (.bool true)], args := [d1, d2, d3] }
  | _ => none }
def releaseStaysRow : OpenClaim := { program := "ytdpplmfgbglkhaa", sum := "4a59352a8ddbd68312ebdff0fc3d342708643a58abd6dd15414c07c15b969bb7", func := "sandglass/sandglasslaw26.ReleaseStays", spec := "releaseStays", unfollowed := true, recurses := true, apart := false }
def ReleaseStaysSaid : Prop := releaseStaysRow.holds Try.pinned (OpenSpec.ofChange releaseStaysSpec)

/-- ITS FALSE NEIGHBOUR: 'it returns false'. Refute it at one input. -/
def releaseStaysWrong : ChangeSpec := { name := "releaseStays", fn := fun _ => fun
  | [d1, d2, d3] => { results := [.lit (.bool false)], args := [d1, d2, d3] }
  | _ => none }
def ReleaseStaysWrongFalsely : Prop := releaseStaysRow.holds Try.pinned (OpenSpec.ofChange releaseStaysWrong)

/-- 'sandglasslaw26.ReleaseNone': WHATEVER THE INPUT: true; the input reads as it did. -/
def releaseNoneSpec : ChangeSpec := { name := "releaseNone", fn := fun _ => fun
  | [d] => { results := [.lit (.bool true)], args := [d] }
  | _ => none }
def releaseNoneRow : OpenClaim := { program := "ytdpplmfgbglkhaa", sum := "4a59352a8ddbd68312ebdff0fc3d342708643a58abd6dd15414c07c15b969bb7", func := "sandglass/sandglasslaw26.ReleaseNone", spec := "releaseNone", unfollowed := true, recurses := true, apart := false }
def ReleaseNoneSaid : Prop := releaseNoneRow.holds Try.pinned (OpenSpec.ofChange releaseNoneSpec)

/-- ITS FALSE NEIGHBOUR: 'it returns false'. Refute it at one input. -/
def releaseNoneWrong : ChangeSpec := { name := "releaseNone", fn := fun _ => fun
  | [d] => { results := [.lit (.bool false)], args := [d] }
  | _ => none }
def ReleaseNoneWrongFalsely : Prop := releaseNoneRow.holds Try.pinned (OpenSpec.ofChange releaseNoneWrong)

/- THE SECOND FORM. 'bulk': how many values and letters a reading holds, each counted each time it is reached (what is shared counts as often as it is met; a slice's spare places count too). A statement '..UptoSaid' is the law's where the arguments, and the package variables that the reading takes, are together of bulk at most 1048576: NARROWER than '..Said'. Prove '..Said' where nothing that the law and all that it calls make is longer than what came in: it says more and counts as full. Else prove '..UptoSaid'. A law counts once. -/
mutual
def uptoBulk {H : Type} : DataW H → Nat
  | .lit (.string bytes) => bytes.length + 1
  | .lit _ => 1
  | .nil => 1
  | .ptr d => uptoBulk d + 1
  | .slice elems spare => uptoBulkAll elems + uptoBulkAll spare + 1
  | .agg parts => uptoBulkAll parts + 1
  | .iface _ d => uptoBulk d + 1
  | .map entries => uptoBulkEntries entries + 1
  | .held _ => 1
def uptoBulkAll {H : Type} : List (DataW H) → Nat
  | [] => 0
  | d :: r => uptoBulk d + uptoBulkAll r
def uptoBulkEntries {H : Type} : List (Lit × DataW H) → Nat
  | [] => 0
  | x :: r => uptoBulkEntry x + uptoBulkEntries r
def uptoBulkEntry {H : Type} : Lit × DataW H → Nat
  | (.string bytes, d) => bytes.length + uptoBulk d + 1
  | (_, d) => uptoBulk d + 1
 end
def uptoSmall : (H : Type) → List (DataW H) → Bool := fun _ ds => decide (uptoBulkAll ds ≤ 1048576)
def OpenSpec.upto (s : _root_.Go.ChangeSpec) : _root_.Go.OpenSpec := { _root_.Go.OpenSpec.ofChange s with cond := some uptoSmall }

/-- 'sandglasslaw26.ReleasePlays', WHERE WHAT IT READS IS OF BULK AT MOST 1048576: true; the input reads as it did. -/
def releasePlaysUptoRow : OpenClaim := { program := "ytdpplmfgbglkhaa", sum := "4a59352a8ddbd68312ebdff0fc3d342708643a58abd6dd15414c07c15b969bb7", func := "sandglass/sandglasslaw26.ReleasePlays", spec := "releasePlays", unfollowed := true, recurses := true, apart := false, narrowed := true }
def ReleasePlaysUptoSaid : Prop := releasePlaysUptoRow.holds Try.pinned (OpenSpec.upto releasePlaysSpec)

/-- 'sandglasslaw26.ReleaseEarly', WHERE WHAT IT READS IS OF BULK AT MOST 1048576: true; the input reads as it did. -/
def releaseEarlyUptoRow : OpenClaim := { program := "ytdpplmfgbglkhaa", sum := "4a59352a8ddbd68312ebdff0fc3d342708643a58abd6dd15414c07c15b969bb7", func := "sandglass/sandglasslaw26.ReleaseEarly", spec := "releaseEarly", unfollowed := true, recurses := true, apart := false, narrowed := true }
def ReleaseEarlyUptoSaid : Prop := releaseEarlyUptoRow.holds Try.pinned (OpenSpec.upto releaseEarlySpec)

/-- 'sandglasslaw26.ReleaseOrder', WHERE WHAT IT READS IS OF BULK AT MOST 1048576: true; the input reads as it did. -/
def releaseOrderUptoRow : OpenClaim := { program := "ytdpplmfgbglkhaa", sum := "4a59352a8ddbd68312ebdff0fc3d342708643a58abd6dd15414c07c15b969bb7", func := "sandglass/sandglasslaw26.ReleaseOrder", spec := "releaseOrder", unfollowed := true, recurses := true, apart := false, narrowed := true }
def ReleaseOrderUptoSaid : Prop := releaseOrderUptoRow.holds Try.pinned (OpenSpec.upto releaseOrderSpec)

/-- 'sandglasslaw26.ReleaseStays', WHERE WHAT IT READS IS OF BULK AT MOST 1048576: true; the input reads as it did. -/
def releaseStaysUptoRow : OpenClaim := { program := "ytdpplmfgbglkhaa", sum := "4a59352a8ddbd68312ebdff0fc3d342708643a58abd6dd15414c07c15b969bb7", func := "sandglass/sandglasslaw26.ReleaseStays", spec := "releaseStays", unfollowed := true, recurses := true, apart := false, narrowed := true }
def ReleaseStaysUptoSaid : Prop := releaseStaysUptoRow.holds Try.pinned (OpenSpec.upto releaseStaysSpec)

/-- 'sandglasslaw26.ReleaseNone', WHERE WHAT IT READS IS OF BULK AT MOST 1048576: true; the input reads as it did. -/
def releaseNoneUptoRow : OpenClaim := { program := "ytdpplmfgbglkhaa", sum := "4a59352a8ddbd68312ebdff0fc3d342708643a58abd6dd15414c07c15b969bb7", func := "sandglass/sandglasslaw26.ReleaseNone", spec := "releaseNone", unfollowed := true, recurses := true, apart := false, narrowed := true }
def ReleaseNoneUptoSaid : Prop := releaseNoneUptoRow.holds Try.pinned (OpenSpec.upto releaseNoneSpec)

end Rows
end Go.Proofs.Ytdpplmfgbglkhaa
