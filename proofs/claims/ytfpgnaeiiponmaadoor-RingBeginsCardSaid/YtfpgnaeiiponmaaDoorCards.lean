/-
  DERIVED. GIVEN WITH THE SEED: THE CARDS: each row of YtfpgnaeiiponmaaDoorRows.lean that lists a variable, with what it lists TIED to the program's text (the seventh form; the later family's looks); each row that meets fmt, with fmt's text TOLD by the authors' own Lean function (tested against real Go, not proved from fmt's source: count such statements apart). THE CARD IS WHAT COUNTS. Prove the row's statement (the work); the ties are given (YtfpgnaeiiponmaaDoorTie.lean); close each card by the builder's one call (the guide's Derived/Test/ToyasCard.lean, 'card_holds'). Laid BY PROGRAM, IN A SANDBOX (cutbox-door.mjs). By AI agents, Wed Nov 11 2026. No macro, syntax, notation, axiom, sorry.
-/
import Derived.Test.YtfpgnaeiiponmaaDoorRows
import GoSem.ClaimSeven
namespace Go.Proofs.YtfpgnaeiiponmaaDoor
namespace Rows

/-- THE TIED CARD OF 'colonnadelaw02.RingSums'. -/
def ringSumsCard : Claim7 := { stood := { row := ringSumsRow, standIns := [], harness := (true, "e53bb65c6019a6568fc5ab4868fecef919b3e259a2509a2fda08444e7270910f"), looks := false }, kinds := [], alts := [], laidByText := true, laidKinds := [.data, .data], laidTests := true, laidLooks := .later }
def RingSumsCardSaid : Prop := Claim7.holds Tryd.pinned (.plain (OpenSpec.ofChange ringSumsSpec)) ringSumsCard

/-- THE TIED CARD OF 'colonnadelaw02.RingKeys'. -/
def ringKeysCard : Claim7 := { stood := { row := ringKeysRow, standIns := [], harness := (true, "e53bb65c6019a6568fc5ab4868fecef919b3e259a2509a2fda08444e7270910f"), looks := false }, kinds := [], alts := [], laidByText := true, laidKinds := [.data, .data], laidTests := true, laidLooks := .later }
def RingKeysCardSaid : Prop := Claim7.holds Tryd.pinned (.plain (OpenSpec.ofChange ringKeysSpec)) ringKeysCard

/-- THE TIED CARD OF 'colonnadelaw02.RingLabels'. -/
def ringLabelsCard : Claim7 := { stood := { row := ringLabelsRow, standIns := [], harness := (true, "e53bb65c6019a6568fc5ab4868fecef919b3e259a2509a2fda08444e7270910f"), looks := false }, kinds := [], alts := [], laidByText := true, laidKinds := [.data, .data], laidTests := true, laidLooks := .later }
def RingLabelsCardSaid : Prop := Claim7.holds Tryd.pinned (.plain (OpenSpec.ofChange ringLabelsSpec)) ringLabelsCard

/-- THE TIED CARD OF 'colonnadelaw02.RingBegins'. -/
def ringBeginsCard : Claim7 := { stood := { row := ringBeginsRow, standIns := [], harness := (true, "e53bb65c6019a6568fc5ab4868fecef919b3e259a2509a2fda08444e7270910f"), looks := false }, kinds := [], alts := [], laidByText := true, laidKinds := [.data, .data], laidTests := true, laidLooks := .later }
def RingBeginsCardSaid : Prop := Claim7.holds Tryd.pinned (.plain (OpenSpec.ofChange ringBeginsSpec)) ringBeginsCard

/-- THE TIED CARD OF 'colonnadelaw02.RingParts'. -/
def ringPartsCard : Claim7 := { stood := { row := ringPartsRow, standIns := [], harness := (true, "e53bb65c6019a6568fc5ab4868fecef919b3e259a2509a2fda08444e7270910f"), looks := false }, kinds := [], alts := [], laidByText := true, laidKinds := [.data, .data], laidTests := true, laidLooks := .later }
def RingPartsCardSaid : Prop := Claim7.holds Tryd.pinned (.plain (OpenSpec.ofChange ringPartsSpec)) ringPartsCard

/-- THE SECOND FORM's CARD OF 'colonnadelaw02.RingSums'. -/
def ringSumsUptoCard : Claim7 := { stood := { row := ringSumsUptoRow, standIns := [], harness := (true, "e53bb65c6019a6568fc5ab4868fecef919b3e259a2509a2fda08444e7270910f"), looks := false }, kinds := [], alts := [], laidByText := true, laidKinds := [.data, .data], laidTests := true, laidLooks := .later }
def RingSumsUptoCardSaid : Prop := Claim7.holds Tryd.pinned (.plain (OpenSpec.upto ringSumsSpec)) ringSumsUptoCard

/-- THE SECOND FORM's CARD OF 'colonnadelaw02.RingKeys'. -/
def ringKeysUptoCard : Claim7 := { stood := { row := ringKeysUptoRow, standIns := [], harness := (true, "e53bb65c6019a6568fc5ab4868fecef919b3e259a2509a2fda08444e7270910f"), looks := false }, kinds := [], alts := [], laidByText := true, laidKinds := [.data, .data], laidTests := true, laidLooks := .later }
def RingKeysUptoCardSaid : Prop := Claim7.holds Tryd.pinned (.plain (OpenSpec.upto ringKeysSpec)) ringKeysUptoCard

/-- THE SECOND FORM's CARD OF 'colonnadelaw02.RingLabels'. -/
def ringLabelsUptoCard : Claim7 := { stood := { row := ringLabelsUptoRow, standIns := [], harness := (true, "e53bb65c6019a6568fc5ab4868fecef919b3e259a2509a2fda08444e7270910f"), looks := false }, kinds := [], alts := [], laidByText := true, laidKinds := [.data, .data], laidTests := true, laidLooks := .later }
def RingLabelsUptoCardSaid : Prop := Claim7.holds Tryd.pinned (.plain (OpenSpec.upto ringLabelsSpec)) ringLabelsUptoCard

/-- THE SECOND FORM's CARD OF 'colonnadelaw02.RingBegins'. -/
def ringBeginsUptoCard : Claim7 := { stood := { row := ringBeginsUptoRow, standIns := [], harness := (true, "e53bb65c6019a6568fc5ab4868fecef919b3e259a2509a2fda08444e7270910f"), looks := false }, kinds := [], alts := [], laidByText := true, laidKinds := [.data, .data], laidTests := true, laidLooks := .later }
def RingBeginsUptoCardSaid : Prop := Claim7.holds Tryd.pinned (.plain (OpenSpec.upto ringBeginsSpec)) ringBeginsUptoCard

/-- THE SECOND FORM's CARD OF 'colonnadelaw02.RingParts'. -/
def ringPartsUptoCard : Claim7 := { stood := { row := ringPartsUptoRow, standIns := [], harness := (true, "e53bb65c6019a6568fc5ab4868fecef919b3e259a2509a2fda08444e7270910f"), looks := false }, kinds := [], alts := [], laidByText := true, laidKinds := [.data, .data], laidTests := true, laidLooks := .later }
def RingPartsUptoCardSaid : Prop := Claim7.holds Tryd.pinned (.plain (OpenSpec.upto ringPartsSpec)) ringPartsUptoCard
end Rows
end Go.Proofs.YtfpgnaeiiponmaaDoor
