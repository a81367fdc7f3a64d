/-
  DERIVED. GIVEN WITH THE SEED: THE CARDS: each row of YtfhglfldmboanaaDoorRows.lean that lists a variable, with what it lists TIED to the program's text (the seventh form; the later family's looks); each row that meets fmt, with fmt's text TOLD by the authors' own Lean function (tested against real Go, not proved from fmt's source: count such statements apart). THE CARD IS WHAT COUNTS. Prove the row's statement (the work); the ties are given (YtfhglfldmboanaaDoorTie.lean); close each card by the builder's one call (the guide's Derived/Test/ToyasCard.lean, 'card_holds'). Laid BY PROGRAM, IN A SANDBOX (cutbox-door.mjs). By AI agents, Wed Nov 11 2026. No macro, syntax, notation, axiom, sorry.
-/
import Derived.Test.YtfhglfldmboanaaDoorRows
import GoSem.ClaimSeven
namespace Go.Proofs.YtfhglfldmboanaaDoor
namespace Rows

/-- THE TIED CARD OF 'sandglasslaw08.HmacMacs'. -/
def hmacMacsCard : Claim7 := { stood := { row := hmacMacsRow, standIns := [], harness := (true, "fc8579a4dfa4d96fbfcdcbbb67a4c033d53e042cce9b94c0e5f741643dd3355a"), looks := false }, kinds := [], alts := [], laidByText := true, laidKinds := [.data, .data], laidTests := true, laidLooks := .later }
def HmacMacsCardSaid : Prop := Claim7.holds Tryd.pinned (.plain (OpenSpec.ofChange hmacMacsSpec)) hmacMacsCard

/-- THE TIED CARD OF 'sandglasslaw08.HmacExpands'. -/
def hmacExpandsCard : Claim7 := { stood := { row := hmacExpandsRow, standIns := [], harness := (true, "fc8579a4dfa4d96fbfcdcbbb67a4c033d53e042cce9b94c0e5f741643dd3355a"), looks := false }, kinds := [], alts := [], laidByText := true, laidKinds := [.data, .data], laidTests := true, laidLooks := .later }
def HmacExpandsCardSaid : Prop := Claim7.holds Tryd.pinned (.plain (OpenSpec.ofChange hmacExpandsSpec)) hmacExpandsCard

/-- THE TIED CARD OF 'sandglasslaw08.HmacZeros'. -/
def hmacZerosCard : Claim7 := { stood := { row := hmacZerosRow, standIns := [], harness := (true, "fc8579a4dfa4d96fbfcdcbbb67a4c033d53e042cce9b94c0e5f741643dd3355a"), looks := false }, kinds := [], alts := [], laidByText := true, laidKinds := [.data, .data], laidTests := true, laidLooks := .later }
def HmacZerosCardSaid : Prop := Claim7.holds Tryd.pinned (.plain (OpenSpec.ofChange hmacZerosSpec)) hmacZerosCard

/-- THE TIED CARD OF 'sandglasslaw08.HmacShorter'. -/
def hmacShorterCard : Claim7 := { stood := { row := hmacShorterRow, standIns := [], harness := (true, "fc8579a4dfa4d96fbfcdcbbb67a4c033d53e042cce9b94c0e5f741643dd3355a"), looks := false }, kinds := [], alts := [], laidByText := true, laidKinds := [.data, .data], laidTests := true, laidLooks := .later }
def HmacShorterCardSaid : Prop := Claim7.holds Tryd.pinned (.plain (OpenSpec.ofChange hmacShorterSpec)) hmacShorterCard

/-- THE SECOND FORM's CARD OF 'sandglasslaw08.HmacMacs'. -/
def hmacMacsUptoCard : Claim7 := { stood := { row := hmacMacsUptoRow, standIns := [], harness := (true, "fc8579a4dfa4d96fbfcdcbbb67a4c033d53e042cce9b94c0e5f741643dd3355a"), looks := false }, kinds := [], alts := [], laidByText := true, laidKinds := [.data, .data], laidTests := true, laidLooks := .later }
def HmacMacsUptoCardSaid : Prop := Claim7.holds Tryd.pinned (.plain (OpenSpec.upto hmacMacsSpec)) hmacMacsUptoCard

/-- THE SECOND FORM's CARD OF 'sandglasslaw08.HmacExpands'. -/
def hmacExpandsUptoCard : Claim7 := { stood := { row := hmacExpandsUptoRow, standIns := [], harness := (true, "fc8579a4dfa4d96fbfcdcbbb67a4c033d53e042cce9b94c0e5f741643dd3355a"), looks := false }, kinds := [], alts := [], laidByText := true, laidKinds := [.data, .data], laidTests := true, laidLooks := .later }
def HmacExpandsUptoCardSaid : Prop := Claim7.holds Tryd.pinned (.plain (OpenSpec.upto hmacExpandsSpec)) hmacExpandsUptoCard

/-- THE SECOND FORM's CARD OF 'sandglasslaw08.HmacZeros'. -/
def hmacZerosUptoCard : Claim7 := { stood := { row := hmacZerosUptoRow, standIns := [], harness := (true, "fc8579a4dfa4d96fbfcdcbbb67a4c033d53e042cce9b94c0e5f741643dd3355a"), looks := false }, kinds := [], alts := [], laidByText := true, laidKinds := [.data, .data], laidTests := true, laidLooks := .later }
def HmacZerosUptoCardSaid : Prop := Claim7.holds Tryd.pinned (.plain (OpenSpec.upto hmacZerosSpec)) hmacZerosUptoCard

/-- THE SECOND FORM's CARD OF 'sandglasslaw08.HmacShorter'. -/
def hmacShorterUptoCard : Claim7 := { stood := { row := hmacShorterUptoRow, standIns := [], harness := (true, "fc8579a4dfa4d96fbfcdcbbb67a4c033d53e042cce9b94c0e5f741643dd3355a"), looks := false }, kinds := [], alts := [], laidByText := true, laidKinds := [.data, .data], laidTests := true, laidLooks := .later }
def HmacShorterUptoCardSaid : Prop := Claim7.holds Tryd.pinned (.plain (OpenSpec.upto hmacShorterSpec)) hmacShorterUptoCard
end Rows
end Go.Proofs.YtfhglfldmboanaaDoor
