/-
  DERIVED. GIVEN WITH THE SEED: THE CARDS: each row of YtdjdociecokilaaDoorRows.lean that lists a variable, with what it lists TIED to the program's text (the seventh form; the later family's looks); each row that meets fmt, with fmt's text TOLD by the authors' own Lean function (tested against real Go, not proved from fmt's source: count such statements apart). THE CARD IS WHAT COUNTS. Prove the row's statement (the work); the ties are given (YtdjdociecokilaaDoorTie.lean); close each card by the builder's one call (the guide's Derived/Test/ToyasCard.lean, 'card_holds'). Laid BY PROGRAM, IN A SANDBOX (cutbox-door.mjs). By AI agents, Wed Nov 11 2026. No macro, syntax, notation, axiom, sorry.
-/
import Derived.Test.YtdjdociecokilaaDoorRows
import GoSem.ClaimSeven
namespace Go.Proofs.YtdjdociecokilaaDoor
namespace Rows

/-- THE TIED CARD OF 'sandglasslaw03.ScalarSums'. -/
def scalarSumsCard : Claim7 := { stood := { row := scalarSumsRow, standIns := [], harness := (true, "f0a8633653ce4c3f572da54f3c6f9fe2b54470a8074d0697016c25c09efbbaca"), looks := false }, kinds := [], alts := [], laidByText := true, laidKinds := [.data, .data], laidTests := true, laidLooks := .later }
def ScalarSumsCardSaid : Prop := Claim7.holds Tryd.pinned (.plain (OpenSpec.ofChange scalarSumsSpec)) scalarSumsCard

/-- THE TIED CARD OF 'sandglasslaw03.ScalarProducts'. -/
def scalarProductsCard : Claim7 := { stood := { row := scalarProductsRow, standIns := [], harness := (true, "f0a8633653ce4c3f572da54f3c6f9fe2b54470a8074d0697016c25c09efbbaca"), looks := false }, kinds := [], alts := [], laidByText := true, laidKinds := [.data, .data], laidTests := true, laidLooks := .later }
def ScalarProductsCardSaid : Prop := Claim7.holds Tryd.pinned (.plain (OpenSpec.ofChange scalarProductsSpec)) scalarProductsCard

/-- THE TIED CARD OF 'sandglasslaw03.ScalarInverses'. -/
def scalarInversesCard : Claim7 := { stood := { row := scalarInversesRow, standIns := [], harness := (true, "f0a8633653ce4c3f572da54f3c6f9fe2b54470a8074d0697016c25c09efbbaca"), looks := false }, kinds := [], alts := [], laidByText := true, laidKinds := [.data, .data], laidTests := true, laidLooks := .later }
def ScalarInversesCardSaid : Prop := Claim7.holds Tryd.pinned (.plain (OpenSpec.ofChange scalarInversesSpec)) scalarInversesCard

/-- THE TIED CARD OF 'sandglasslaw03.ScalarRing'. -/
def scalarRingCard : Claim7 := { stood := { row := scalarRingRow, standIns := [], harness := (true, "f0a8633653ce4c3f572da54f3c6f9fe2b54470a8074d0697016c25c09efbbaca"), looks := false }, kinds := [], alts := [], laidByText := true, laidKinds := [.data, .data], laidTests := true, laidLooks := .later }
def ScalarRingCardSaid : Prop := Claim7.holds Tryd.pinned (.plain (OpenSpec.ofChange scalarRingSpec)) scalarRingCard

/-- THE TIED CARD OF 'sandglasslaw03.ScalarWides'. -/
def scalarWidesCard : Claim7 := { stood := { row := scalarWidesRow, standIns := [], harness := (true, "f0a8633653ce4c3f572da54f3c6f9fe2b54470a8074d0697016c25c09efbbaca"), looks := false }, kinds := [], alts := [], laidByText := true, laidKinds := [.data, .data], laidTests := true, laidLooks := .later }
def ScalarWidesCardSaid : Prop := Claim7.holds Tryd.pinned (.plain (OpenSpec.ofChange scalarWidesSpec)) scalarWidesCard

/-- THE TIED CARD OF 'sandglasslaw03.ScalarHalves'. -/
def scalarHalvesCard : Claim7 := { stood := { row := scalarHalvesRow, standIns := [], harness := (true, "f0a8633653ce4c3f572da54f3c6f9fe2b54470a8074d0697016c25c09efbbaca"), looks := false }, kinds := [], alts := [], laidByText := true, laidKinds := [.data, .data], laidTests := true, laidLooks := .later }
def ScalarHalvesCardSaid : Prop := Claim7.holds Tryd.pinned (.plain (OpenSpec.ofChange scalarHalvesSpec)) scalarHalvesCard

/-- THE SECOND FORM's CARD OF 'sandglasslaw03.ScalarSums'. -/
def scalarSumsUptoCard : Claim7 := { stood := { row := scalarSumsUptoRow, standIns := [], harness := (true, "f0a8633653ce4c3f572da54f3c6f9fe2b54470a8074d0697016c25c09efbbaca"), looks := false }, kinds := [], alts := [], laidByText := true, laidKinds := [.data, .data], laidTests := true, laidLooks := .later }
def ScalarSumsUptoCardSaid : Prop := Claim7.holds Tryd.pinned (.plain (OpenSpec.upto scalarSumsSpec)) scalarSumsUptoCard

/-- THE SECOND FORM's CARD OF 'sandglasslaw03.ScalarProducts'. -/
def scalarProductsUptoCard : Claim7 := { stood := { row := scalarProductsUptoRow, standIns := [], harness := (true, "f0a8633653ce4c3f572da54f3c6f9fe2b54470a8074d0697016c25c09efbbaca"), looks := false }, kinds := [], alts := [], laidByText := true, laidKinds := [.data, .data], laidTests := true, laidLooks := .later }
def ScalarProductsUptoCardSaid : Prop := Claim7.holds Tryd.pinned (.plain (OpenSpec.upto scalarProductsSpec)) scalarProductsUptoCard

/-- THE SECOND FORM's CARD OF 'sandglasslaw03.ScalarInverses'. -/
def scalarInversesUptoCard : Claim7 := { stood := { row := scalarInversesUptoRow, standIns := [], harness := (true, "f0a8633653ce4c3f572da54f3c6f9fe2b54470a8074d0697016c25c09efbbaca"), looks := false }, kinds := [], alts := [], laidByText := true, laidKinds := [.data, .data], laidTests := true, laidLooks := .later }
def ScalarInversesUptoCardSaid : Prop := Claim7.holds Tryd.pinned (.plain (OpenSpec.upto scalarInversesSpec)) scalarInversesUptoCard

/-- THE SECOND FORM's CARD OF 'sandglasslaw03.ScalarRing'. -/
def scalarRingUptoCard : Claim7 := { stood := { row := scalarRingUptoRow, standIns := [], harness := (true, "f0a8633653ce4c3f572da54f3c6f9fe2b54470a8074d0697016c25c09efbbaca"), looks := false }, kinds := [], alts := [], laidByText := true, laidKinds := [.data, .data], laidTests := true, laidLooks := .later }
def ScalarRingUptoCardSaid : Prop := Claim7.holds Tryd.pinned (.plain (OpenSpec.upto scalarRingSpec)) scalarRingUptoCard

/-- THE SECOND FORM's CARD OF 'sandglasslaw03.ScalarWides'. -/
def scalarWidesUptoCard : Claim7 := { stood := { row := scalarWidesUptoRow, standIns := [], harness := (true, "f0a8633653ce4c3f572da54f3c6f9fe2b54470a8074d0697016c25c09efbbaca"), looks := false }, kinds := [], alts := [], laidByText := true, laidKinds := [.data, .data], laidTests := true, laidLooks := .later }
def ScalarWidesUptoCardSaid : Prop := Claim7.holds Tryd.pinned (.plain (OpenSpec.upto scalarWidesSpec)) scalarWidesUptoCard

/-- THE SECOND FORM's CARD OF 'sandglasslaw03.ScalarHalves'. -/
def scalarHalvesUptoCard : Claim7 := { stood := { row := scalarHalvesUptoRow, standIns := [], harness := (true, "f0a8633653ce4c3f572da54f3c6f9fe2b54470a8074d0697016c25c09efbbaca"), looks := false }, kinds := [], alts := [], laidByText := true, laidKinds := [.data, .data], laidTests := true, laidLooks := .later }
def ScalarHalvesUptoCardSaid : Prop := Claim7.holds Tryd.pinned (.plain (OpenSpec.upto scalarHalvesSpec)) scalarHalvesUptoCard
end Rows
end Go.Proofs.YtdjdociecokilaaDoor
