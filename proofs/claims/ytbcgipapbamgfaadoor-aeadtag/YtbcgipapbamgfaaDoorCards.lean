/-
  DERIVED. GIVEN WITH THE SEED: THE CARDS: each row of YtbcgipapbamgfaaDoorRows.lean that lists a variable, with what it lists TIED to the program's text (the seventh form; the later family's looks); each row that meets fmt, with fmt's text TOLD by the authors' own Lean function (tested against real Go, not proved from fmt's source: count such statements apart). THE CARD IS WHAT COUNTS. Prove the row's statement (the work); the ties are given (YtbcgipapbamgfaaDoorTie.lean); close each card by the builder's one call (the guide's Derived/Test/ToyasCard.lean, 'card_holds'). Laid BY PROGRAM, IN A SANDBOX (cutbox-door.mjs). By AI agents, Wed Nov 11 2026. No macro, syntax, notation, axiom, sorry.
-/
import Derived.Test.YtbcgipapbamgfaaDoorRows
import GoSem.ClaimSeven
namespace Go.Proofs.YtbcgipapbamgfaaDoor
namespace Rows

/-- THE TIED CARD OF 'sandglasslaw11.AeadSeals'. -/
def aeadSealsCard : Claim7 := { stood := { row := aeadSealsRow, standIns := [], harness := (true, "79563b23687c5b1efc18743acf9f705cf88387e6c95a42274d1950acf75ecdd8"), looks := false }, kinds := [], alts := [], laidByText := true, laidKinds := [.data], laidTests := true, laidLooks := .later }
def AeadSealsCardSaid : Prop := Claim7.holds Tryd.pinned (.plain (OpenSpec.ofChange aeadSealsSpec)) aeadSealsCard

/-- THE TIED CARD OF 'sandglasslaw11.AeadOpens'. -/
def aeadOpensCard : Claim7 := { stood := { row := aeadOpensRow, standIns := [], harness := (true, "79563b23687c5b1efc18743acf9f705cf88387e6c95a42274d1950acf75ecdd8"), looks := false }, kinds := [], alts := [], laidByText := true, laidKinds := [.data], laidTests := true, laidLooks := .later }
def AeadOpensCardSaid : Prop := Claim7.holds Tryd.pinned (.plain (OpenSpec.ofChange aeadOpensSpec)) aeadOpensCard

/-- THE TIED CARD OF 'sandglasslaw11.AeadBack'. -/
def aeadBackCard : Claim7 := { stood := { row := aeadBackRow, standIns := [], harness := (true, "79563b23687c5b1efc18743acf9f705cf88387e6c95a42274d1950acf75ecdd8"), looks := false }, kinds := [], alts := [], laidByText := true, laidKinds := [.data], laidTests := true, laidLooks := .later }
def AeadBackCardSaid : Prop := Claim7.holds Tryd.pinned (.plain (OpenSpec.ofChange aeadBackSpec)) aeadBackCard

/-- THE TIED CARD OF 'sandglasslaw11.AeadTag'. -/
def aeadTagCard : Claim7 := { stood := { row := aeadTagRow, standIns := [], harness := (true, "79563b23687c5b1efc18743acf9f705cf88387e6c95a42274d1950acf75ecdd8"), looks := false }, kinds := [], alts := [], laidByText := true, laidKinds := [.data], laidTests := true, laidLooks := .later }
def AeadTagCardSaid : Prop := Claim7.holds Tryd.pinned (.plain (OpenSpec.ofChange aeadTagSpec)) aeadTagCard

/-- THE TIED CARD OF 'sandglasslaw11.AeadStream'. -/
def aeadStreamCard : Claim7 := { stood := { row := aeadStreamRow, standIns := [], harness := (true, "79563b23687c5b1efc18743acf9f705cf88387e6c95a42274d1950acf75ecdd8"), looks := false }, kinds := [], alts := [], laidByText := true, laidKinds := [.data], laidTests := true, laidLooks := .later }
def AeadStreamCardSaid : Prop := Claim7.holds Tryd.pinned (.plain (OpenSpec.ofChange aeadStreamSpec)) aeadStreamCard

/-- THE SECOND FORM's CARD OF 'sandglasslaw11.AeadSeals'. -/
def aeadSealsUptoCard : Claim7 := { stood := { row := aeadSealsUptoRow, standIns := [], harness := (true, "79563b23687c5b1efc18743acf9f705cf88387e6c95a42274d1950acf75ecdd8"), looks := false }, kinds := [], alts := [], laidByText := true, laidKinds := [.data], laidTests := true, laidLooks := .later }
def AeadSealsUptoCardSaid : Prop := Claim7.holds Tryd.pinned (.plain (OpenSpec.upto aeadSealsSpec)) aeadSealsUptoCard

/-- THE SECOND FORM's CARD OF 'sandglasslaw11.AeadOpens'. -/
def aeadOpensUptoCard : Claim7 := { stood := { row := aeadOpensUptoRow, standIns := [], harness := (true, "79563b23687c5b1efc18743acf9f705cf88387e6c95a42274d1950acf75ecdd8"), looks := false }, kinds := [], alts := [], laidByText := true, laidKinds := [.data], laidTests := true, laidLooks := .later }
def AeadOpensUptoCardSaid : Prop := Claim7.holds Tryd.pinned (.plain (OpenSpec.upto aeadOpensSpec)) aeadOpensUptoCard

/-- THE SECOND FORM's CARD OF 'sandglasslaw11.AeadBack'. -/
def aeadBackUptoCard : Claim7 := { stood := { row := aeadBackUptoRow, standIns := [], harness := (true, "79563b23687c5b1efc18743acf9f705cf88387e6c95a42274d1950acf75ecdd8"), looks := false }, kinds := [], alts := [], laidByText := true, laidKinds := [.data], laidTests := true, laidLooks := .later }
def AeadBackUptoCardSaid : Prop := Claim7.holds Tryd.pinned (.plain (OpenSpec.upto aeadBackSpec)) aeadBackUptoCard

/-- THE SECOND FORM's CARD OF 'sandglasslaw11.AeadTag'. -/
def aeadTagUptoCard : Claim7 := { stood := { row := aeadTagUptoRow, standIns := [], harness := (true, "79563b23687c5b1efc18743acf9f705cf88387e6c95a42274d1950acf75ecdd8"), looks := false }, kinds := [], alts := [], laidByText := true, laidKinds := [.data], laidTests := true, laidLooks := .later }
def AeadTagUptoCardSaid : Prop := Claim7.holds Tryd.pinned (.plain (OpenSpec.upto aeadTagSpec)) aeadTagUptoCard

/-- THE SECOND FORM's CARD OF 'sandglasslaw11.AeadStream'. -/
def aeadStreamUptoCard : Claim7 := { stood := { row := aeadStreamUptoRow, standIns := [], harness := (true, "79563b23687c5b1efc18743acf9f705cf88387e6c95a42274d1950acf75ecdd8"), looks := false }, kinds := [], alts := [], laidByText := true, laidKinds := [.data], laidTests := true, laidLooks := .later }
def AeadStreamUptoCardSaid : Prop := Claim7.holds Tryd.pinned (.plain (OpenSpec.upto aeadStreamSpec)) aeadStreamUptoCard
end Rows
end Go.Proofs.YtbcgipapbamgfaaDoor
