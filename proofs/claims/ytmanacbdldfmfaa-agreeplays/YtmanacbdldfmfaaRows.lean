/-
  No cell of these rows narrows 'for every input' (looked for: loops, veiled, ifaces, maps, wideKeys, modest, calm, conditions, laid).
  DERIVED. THE GIVEN ROWS OF THIS SEAT. 5 by the template 'for every input the law returns true; each argument reads behind the call as it read before'; 0 by the template 'total and deterministic' (their statements: YtmanacbdldfmfaaTotals.lean).
  GIVEN WITH THE SEED: the statements are not yours to turn. If you find one false, say at which input.
  Laid BY PROGRAM, IN A SANDBOX (cutbox-rows.mjs): the forced cells as the released guide's own fill.sh prints them over the translation c884eb4a6d2688f0… (all of the seat's roots in one cut). By AI agents, Wed Nov 11 2026. No macro, syntax, notation, axiom, sorry.
-/
import Derived.Test.YtmanacbdldfmfaaChecked
import GoSem.Claim
import GoSem.ClaimJoined
import GoSem.ClaimMapViews
import Derived.JoinedTies
import Derived.KernelRfl
namespace Go.Proofs.Ytmanacbdldfmfaa
/- THE CELL 'sum', in the pinned program and in every row, IS THE sha256 OF THE DUMP (.gsa) THAT YtmanacbdldfmfaaProg.lean LOADS. Nothing in Lean hashes anything: it is a label: what it is worth is what the hold of that sum in a sandbox is worth. -/
noncomputable def Try.pinned : Pinned := { name := "ytmanacbdldfmfaa", sum := "c884eb4a6d2688f06f7ae596da2c40c6bfd89b8521b70f009cfb7efa627a3bf0", checked := Try.checked }
namespace Rows
def none {H : Type} : Left H := { results := [], args := [] }

/-- 'sandglasslaw22.AgreeLeaders': WHATEVER THE INPUT: true; the input reads as it did. -/
def agreeLeadersSpec : ChangeSpec := { name := "agreeLeaders", fn := fun _ => fun
  | [d1, d2, d3] => { results := [.lit (.bool true)], args := [d1, d2, d3] }
  | _ => none }
def agreeLeadersRow : OpenClaim := { program := "ytmanacbdldfmfaa", sum := "c884eb4a6d2688f06f7ae596da2c40c6bfd89b8521b70f009cfb7efa627a3bf0", func := "sandglass/sandglasslaw22.AgreeLeaders", spec := "agreeLeaders", unfollowed := true, recurses := true, plainKeys := false, apart := false }
def AgreeLeadersSaid : Prop := agreeLeadersRow.holds Try.pinned (OpenSpec.ofChange agreeLeadersSpec)

/-- ITS FALSE NEIGHBOUR: 'it returns false'. Refute it at one input. -/
def agreeLeadersWrong : ChangeSpec := { name := "agreeLeaders", fn := fun _ => fun
  | [d1, d2, d3] => { results := [.lit (.bool false)], args := [d1, d2, d3] }
  | _ => none }
def AgreeLeadersWrongFalsely : Prop := agreeLeadersRow.holds Try.pinned (OpenSpec.ofChange agreeLeadersWrong)

/-- 'sandglasslaw22.AgreePlays': WHATEVER THE INPUT: true; the input reads as it did. -/
def agreePlaysSpec : ChangeSpec := { name := "agreePlays", fn := fun _ => fun
  | [d1, d2] => { results := [.lit (.bool true)], args := [d1, d2] }
  | _ => none }
def agreePlaysRow : OpenClaim := { program := "ytmanacbdldfmfaa", sum := "c884eb4a6d2688f06f7ae596da2c40c6bfd89b8521b70f009cfb7efa627a3bf0", func := "sandglass/sandglasslaw22.AgreePlays", spec := "agreePlays", unfollowed := true, recurses := true, plainKeys := false, apart := false }
def AgreePlaysSaid : Prop := agreePlaysRow.holds Try.pinned (OpenSpec.ofChange agreePlaysSpec)

/-- ITS FALSE NEIGHBOUR: 'it returns false'. Refute it at one input. -/
def agreePlaysWrong : ChangeSpec := { name := "agreePlays", fn := fun _ => fun
  | [d1, d2] => { results := [.lit (.bool false)], args := [d1, d2] }
  | _ => none }
def AgreePlaysWrongFalsely : Prop := agreePlaysRow.holds Try.pinned (OpenSpec.ofChange agreePlaysWrong)

/-- 'sandglasslaw22.AgreeOnce': WHATEVER THE INPUT: true; the input reads as it did. -/
def agreeOnceSpec : ChangeSpec := { name := "agreeOnce", fn := fun _ => fun
  | [d1, d2] => { results := [.lit (.bool true)], args := [d1, d2] }
  | _ => none }
def agreeOnceRow : OpenClaim := { program := "ytmanacbdldfmfaa", sum := "c884eb4a6d2688f06f7ae596da2c40c6bfd89b8521b70f009cfb7efa627a3bf0", func := "sandglass/sandglasslaw22.AgreeOnce", spec := "agreeOnce", unfollowed := true, recurses := true, plainKeys := false, apart := false }
def AgreeOnceSaid : Prop := agreeOnceRow.holds Try.pinned (OpenSpec.ofChange agreeOnceSpec)

/-- ITS FALSE NEIGHBOUR: 'it returns false'. Refute it at one input. -/
def agreeOnceWrong : ChangeSpec := { name := "agreeOnce", fn := fun _ => fun
  | [d1, d2] => { results := [.lit (.bool false)], args := [d1, d2] }
  | _ => none }
def AgreeOnceWrongFalsely : Prop := agreeOnceRow.holds Try.pinned (OpenSpec.ofChange agreeOnceWrong)

/-- 'sandglasslaw22.AgreeLocks': WHATEVER THE INPUT: true; the input reads as it did. -/
def agreeLocksSpec : ChangeSpec := { name := "agreeLocks", fn := fun _ => fun
  | [d1, d2] => { results := [.lit (.bool true)], args := [d1, d2] }
  | _ => none }
def agreeLocksRow : OpenClaim := { program := "ytmanacbdldfmfaa", sum := "c884eb4a6d2688f06f7ae596da2c40c6bfd89b8521b70f009cfb7efa627a3bf0", func := "sandglass/sandglasslaw22.AgreeLocks", spec := "agreeLocks", unfollowed := true, recurses := true, plainKeys := false, apart := false }
def AgreeLocksSaid : Prop := agreeLocksRow.holds Try.pinned (OpenSpec.ofChange agreeLocksSpec)

/-- ITS FALSE NEIGHBOUR: 'it returns false'. Refute it at one input. -/
def agreeLocksWrong : ChangeSpec := { name := "agreeLocks", fn := fun _ => fun
  | [d1, d2] => { results := [.lit (.bool false)], args := [d1, d2] }
  | _ => none }
def AgreeLocksWrongFalsely : Prop := agreeLocksRow.holds Try.pinned (OpenSpec.ofChange agreeLocksWrong)

/-- 'sandglasslaw22.AgreeNone': WHATEVER THE INPUT: true; the input reads as it did. -/
def agreeNoneSpec : ChangeSpec := { name := "agreeNone", fn := fun _ => fun
  | [d] => { results := [.lit (.bool true)], args := [d] }
  | _ => none }
def agreeNoneRow : OpenClaim := { program := "ytmanacbdldfmfaa", sum := "c884eb4a6d2688f06f7ae596da2c40c6bfd89b8521b70f009cfb7efa627a3bf0", func := "sandglass/sandglasslaw22.AgreeNone", spec := "agreeNone", unfollowed := true, recurses := true, plainKeys := false, apart := false }
def AgreeNoneSaid : Prop := agreeNoneRow.holds Try.pinned (OpenSpec.ofChange agreeNoneSpec)

/-- ITS FALSE NEIGHBOUR: 'it returns false'. Refute it at one input. -/
def agreeNoneWrong : ChangeSpec := { name := "agreeNone", fn := fun _ => fun
  | [d] => { results := [.lit (.bool false)], args := [d] }
  | _ => none }
def AgreeNoneWrongFalsely : Prop := agreeNoneRow.holds Try.pinned (OpenSpec.ofChange agreeNoneWrong)

/- THE SECOND FORM. 'bulk': how many values and letters a reading holds, each counted each time it is reached (what is shared counts as often as it is met; a slice's spare places count too). A statement '..UptoSaid' is the law's where the arguments, and the package variables that the reading takes, are together of bulk at most 1048576: NARROWER than '..Said'. Prove '..Said' where nothing that the law and all that it calls make is longer than what came in: it says more and counts as full. Else prove '..UptoSaid'. A law counts once. -/
mutual
def uptoBulk {H : Type} : DataW H → Nat
  | .lit (.string bytes) => bytes.length + 1
  | .lit _ => 1
  | .nil => 1
  | .ptr d => uptoBulk d + 1
  | .slice elems spare => uptoBulkAll elems + uptoBulkAll spare + 1
  | .agg parts => uptoBulkAll parts + 1
  | .iface _ d => uptoBulk d + 1
  | .map entries => uptoBulkEntries entries + 1
  | .held _ => 1
def uptoBulkAll {H : Type} : List (DataW H) → Nat
  | [] => 0
  | d :: r => uptoBulk d + uptoBulkAll r
def uptoBulkEntries {H : Type} : List (Lit × DataW H) → Nat
  | [] => 0
  | x :: r => uptoBulkEntry x + uptoBulkEntries r
def uptoBulkEntry {H : Type} : Lit × DataW H → Nat
  | (.string bytes, d) => bytes.length + uptoBulk d + 1
  | (_, d) => uptoBulk d + 1
 end
def uptoSmall : (H : Type) → List (DataW H) → Bool := fun _ ds => decide (uptoBulkAll ds ≤ 1048576)
def OpenSpec.upto (s : _root_.Go.ChangeSpec) : _root_.Go.OpenSpec := { _root_.Go.OpenSpec.ofChange s with cond := some uptoSmall }

/-- 'sandglasslaw22.AgreeLeaders', WHERE WHAT IT READS IS OF BULK AT MOST 1048576: true; the input reads as it did. -/
def agreeLeadersUptoRow : OpenClaim := { program := "ytmanacbdldfmfaa", sum := "c884eb4a6d2688f06f7ae596da2c40c6bfd89b8521b70f009cfb7efa627a3bf0", func := "sandglass/sandglasslaw22.AgreeLeaders", spec := "agreeLeaders", unfollowed := true, recurses := true, plainKeys := false, apart := false, narrowed := true }
def AgreeLeadersUptoSaid : Prop := agreeLeadersUptoRow.holds Try.pinned (OpenSpec.upto agreeLeadersSpec)

/-- 'sandglasslaw22.AgreePlays', WHERE WHAT IT READS IS OF BULK AT MOST 1048576: true; the input reads as it did. -/
def agreePlaysUptoRow : OpenClaim := { program := "ytmanacbdldfmfaa", sum := "c884eb4a6d2688f06f7ae596da2c40c6bfd89b8521b70f009cfb7efa627a3bf0", func := "sandglass/sandglasslaw22.AgreePlays", spec := "agreePlays", unfollowed := true, recurses := true, plainKeys := false, apart := false, narrowed := true }
def AgreePlaysUptoSaid : Prop := agreePlaysUptoRow.holds Try.pinned (OpenSpec.upto agreePlaysSpec)

/-- 'sandglasslaw22.AgreeOnce', WHERE WHAT IT READS IS OF BULK AT MOST 1048576: true; the input reads as it did. -/
def agreeOnceUptoRow : OpenClaim := { program := "ytmanacbdldfmfaa", sum := "c884eb4a6d2688f06f7ae596da2c40c6bfd89b8521b70f009cfb7efa627a3bf0", func := "sandglass/sandglasslaw22.AgreeOnce", spec := "agreeOnce", unfollowed := true, recurses := true, plainKeys := false, apart := false, narrowed := true }
def AgreeOnceUptoSaid : Prop := agreeOnceUptoRow.holds Try.pinned (OpenSpec.upto agreeOnceSpec)

/-- 'sandglasslaw22.AgreeLocks', WHERE WHAT IT READS IS OF BULK AT MOST 1048576: true; the input reads as it did. -/
def agreeLocksUptoRow : OpenClaim := { program := "ytmanacbdldfmfaa", sum := "c884eb4a6d2688f06f7ae596da2c40c6bfd89b8521b70f009cfb7efa627a3bf0", func := "sandglass/sandglasslaw22.AgreeLocks", spec := "agreeLocks", unfollowed := true, recurses := true, plainKeys := false, apart := false, narrowed := true }
def AgreeLocksUptoSaid : Prop := agreeLocksUptoRow.holds Try.pinned (OpenSpec.upto agreeLocksSpec)

/-- 'sandglasslaw22.AgreeNone', WHERE WHAT IT READS IS OF BULK AT MOST 1048576: true; the input reads as it did. -/
def agreeNoneUptoRow : OpenClaim := { program := "ytmanacbdldfmfaa", sum := "c884eb4a6d2688f06f7ae596da2c40c6bfd89b8521b70f009cfb7efa627a3bf0", func := "sandglass/sandglasslaw22.AgreeNone", spec := "agreeNone", unfollowed := true, recurses := true, plainKeys := false, apart := false, narrowed := true }
def AgreeNoneUptoSaid : Prop := agreeNoneUptoRow.holds Try.pinned (OpenSpec.upto agreeNoneSpec)

end Rows
end Go.Proofs.Ytmanacbdldfmfaa
