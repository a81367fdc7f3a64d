/-
  DERIVED. GIVEN WITH THE SEED: THE CARDS: each row of YtnaiccfdbapdpaaDoorRows.lean that lists a variable, with what it lists TIED to the program's text (the seventh form; the later family's looks); each row that meets fmt, with fmt's text TOLD by the authors' own Lean function (tested against real Go, not proved from fmt's source: count such statements apart). THE CARD IS WHAT COUNTS. Prove the row's statement (the work); the ties are given (YtnaiccfdbapdpaaDoorTie.lean); close each card by the builder's one call (the guide's Derived/Test/ToyasCard.lean, 'card_holds'). Laid BY PROGRAM, IN A SANDBOX (cutbox-door.mjs). By AI agents, Wed Nov 11 2026. No macro, syntax, notation, axiom, sorry.
-/
import Derived.Test.YtnaiccfdbapdpaaDoorRows
import GoSem.ClaimSeven
namespace Go.Proofs.YtnaiccfdbapdpaaDoor
namespace Rows

/-- THE TIED CARD OF 'sandglasslaw13.ShamirEvals'. -/
def shamirEvalsCard : Claim7 := { stood := { row := shamirEvalsRow, standIns := [], harness := (true, "e3773bd6558cd3a7f2dac803fc4b0cc136c25e6f3080c6d822f0663b23c60ad2"), looks := false }, kinds := [], alts := [], laidByText := true, laidKinds := [.data, .data], laidTests := true, laidLooks := .later }
def ShamirEvalsCardSaid : Prop := Claim7.holds Tryd.pinned (.plain (OpenSpec.ofChange shamirEvalsSpec)) shamirEvalsCard

/-- THE TIED CARD OF 'sandglasslaw13.ShamirWeights'. -/
def shamirWeightsCard : Claim7 := { stood := { row := shamirWeightsRow, standIns := [], harness := (true, "e3773bd6558cd3a7f2dac803fc4b0cc136c25e6f3080c6d822f0663b23c60ad2"), looks := false }, kinds := [], alts := [], laidByText := true, laidKinds := [.data, .data], laidTests := true, laidLooks := .later }
def ShamirWeightsCardSaid : Prop := Claim7.holds Tryd.pinned (.plain (OpenSpec.ofChange shamirWeightsSpec)) shamirWeightsCard

/-- THE TIED CARD OF 'sandglasslaw13.ShamirJoins'. -/
def shamirJoinsCard : Claim7 := { stood := { row := shamirJoinsRow, standIns := [], harness := (true, "e3773bd6558cd3a7f2dac803fc4b0cc136c25e6f3080c6d822f0663b23c60ad2"), looks := false }, kinds := [], alts := [], laidByText := true, laidKinds := [.data, .data], laidTests := true, laidLooks := .later }
def ShamirJoinsCardSaid : Prop := Claim7.holds Tryd.pinned (.plain (OpenSpec.ofChange shamirJoinsSpec)) shamirJoinsCard

/-- THE TIED CARD OF 'sandglasslaw13.ShamirBack'. -/
def shamirBackCard : Claim7 := { stood := { row := shamirBackRow, standIns := [], harness := (true, "e3773bd6558cd3a7f2dac803fc4b0cc136c25e6f3080c6d822f0663b23c60ad2"), looks := false }, kinds := [], alts := [], laidByText := true, laidKinds := [.data, .data], laidTests := true, laidLooks := .later }
def ShamirBackCardSaid : Prop := Claim7.holds Tryd.pinned (.plain (OpenSpec.ofChange shamirBackSpec)) shamirBackCard

/-- THE TIED CARD OF 'sandglasslaw13.ShamirHides'. -/
def shamirHidesCard : Claim7 := { stood := { row := shamirHidesRow, standIns := [], harness := (true, "e3773bd6558cd3a7f2dac803fc4b0cc136c25e6f3080c6d822f0663b23c60ad2"), looks := false }, kinds := [], alts := [], laidByText := true, laidKinds := [.data, .data], laidTests := true, laidLooks := .later }
def ShamirHidesCardSaid : Prop := Claim7.holds Tryd.pinned (.plain (OpenSpec.ofChange shamirHidesSpec)) shamirHidesCard

/-- THE SECOND FORM's CARD OF 'sandglasslaw13.ShamirEvals'. -/
def shamirEvalsUptoCard : Claim7 := { stood := { row := shamirEvalsUptoRow, standIns := [], harness := (true, "e3773bd6558cd3a7f2dac803fc4b0cc136c25e6f3080c6d822f0663b23c60ad2"), looks := false }, kinds := [], alts := [], laidByText := true, laidKinds := [.data, .data], laidTests := true, laidLooks := .later }
def ShamirEvalsUptoCardSaid : Prop := Claim7.holds Tryd.pinned (.plain (OpenSpec.upto shamirEvalsSpec)) shamirEvalsUptoCard

/-- THE SECOND FORM's CARD OF 'sandglasslaw13.ShamirWeights'. -/
def shamirWeightsUptoCard : Claim7 := { stood := { row := shamirWeightsUptoRow, standIns := [], harness := (true, "e3773bd6558cd3a7f2dac803fc4b0cc136c25e6f3080c6d822f0663b23c60ad2"), looks := false }, kinds := [], alts := [], laidByText := true, laidKinds := [.data, .data], laidTests := true, laidLooks := .later }
def ShamirWeightsUptoCardSaid : Prop := Claim7.holds Tryd.pinned (.plain (OpenSpec.upto shamirWeightsSpec)) shamirWeightsUptoCard

/-- THE SECOND FORM's CARD OF 'sandglasslaw13.ShamirJoins'. -/
def shamirJoinsUptoCard : Claim7 := { stood := { row := shamirJoinsUptoRow, standIns := [], harness := (true, "e3773bd6558cd3a7f2dac803fc4b0cc136c25e6f3080c6d822f0663b23c60ad2"), looks := false }, kinds := [], alts := [], laidByText := true, laidKinds := [.data, .data], laidTests := true, laidLooks := .later }
def ShamirJoinsUptoCardSaid : Prop := Claim7.holds Tryd.pinned (.plain (OpenSpec.upto shamirJoinsSpec)) shamirJoinsUptoCard

/-- THE SECOND FORM's CARD OF 'sandglasslaw13.ShamirBack'. -/
def shamirBackUptoCard : Claim7 := { stood := { row := shamirBackUptoRow, standIns := [], harness := (true, "e3773bd6558cd3a7f2dac803fc4b0cc136c25e6f3080c6d822f0663b23c60ad2"), looks := false }, kinds := [], alts := [], laidByText := true, laidKinds := [.data, .data], laidTests := true, laidLooks := .later }
def ShamirBackUptoCardSaid : Prop := Claim7.holds Tryd.pinned (.plain (OpenSpec.upto shamirBackSpec)) shamirBackUptoCard

/-- THE SECOND FORM's CARD OF 'sandglasslaw13.ShamirHides'. -/
def shamirHidesUptoCard : Claim7 := { stood := { row := shamirHidesUptoRow, standIns := [], harness := (true, "e3773bd6558cd3a7f2dac803fc4b0cc136c25e6f3080c6d822f0663b23c60ad2"), looks := false }, kinds := [], alts := [], laidByText := true, laidKinds := [.data, .data], laidTests := true, laidLooks := .later }
def ShamirHidesUptoCardSaid : Prop := Claim7.holds Tryd.pinned (.plain (OpenSpec.upto shamirHidesSpec)) shamirHidesUptoCard
end Rows
end Go.Proofs.YtnaiccfdbapdpaaDoor
