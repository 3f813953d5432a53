/-
  DERIVED. GIVEN WITH THE SEED: THE CARDS: each row of YtpaglcojbcndoaaDoorRows.lean that lists a variable, with what it lists TIED to the program's text (the seventh form; the later family's looks); each row that meets fmt, with fmt's text TOLD by the authors' own Lean function (tested against real Go, not proved from fmt's source: count such statements apart). THE CARD IS WHAT COUNTS. Prove the row's statement (the work); the ties are given (YtpaglcojbcndoaaDoorTie.lean); close each card by the builder's one call (the guide's Derived/Test/ToyasCard.lean, 'card_holds'). Laid BY PROGRAM, IN A SANDBOX (cutbox-door.mjs). By AI agents, Wed Nov 11 2026. No macro, syntax, notation, axiom, sorry.
-/
import Derived.Test.YtpaglcojbcndoaaDoorRows
import GoSem.ClaimSeven
namespace Go.Proofs.YtpaglcojbcndoaaDoor
namespace Rows

/-- THE TIED CARD OF 'colonnadelaw16.ItemGrams'. -/
def itemGramsCard : Claim7 := { stood := { row := itemGramsRow, standIns := [], harness := (true, "6b95b6a9b995b255b65f4e4d176739bf568d9ef0e7b5a95e6d6d8966cc4f4761"), looks := true }, kinds := [], alts := [], laidByText := true, laidKinds := [.data, .data], laidTests := true, laidLooks := .later }
def ItemGramsCardSaid : Prop := Claim7.holds Tryd.pinned (.plain (OpenSpec.ofChange itemGramsSpec)) itemGramsCard

/-- THE TIED CARD OF 'colonnadelaw16.ItemStreams'. -/
def itemStreamsCard : Claim7 := { stood := { row := itemStreamsRow, standIns := [], harness := (true, "6b95b6a9b995b255b65f4e4d176739bf568d9ef0e7b5a95e6d6d8966cc4f4761"), looks := true }, kinds := [], alts := [], laidByText := true, laidKinds := [.data, .data], laidTests := true, laidLooks := .later }
def ItemStreamsCardSaid : Prop := Claim7.holds Tryd.pinned (.plain (OpenSpec.ofChange itemStreamsSpec)) itemStreamsCard

/-- THE TIED CARD OF 'colonnadelaw16.ItemBack'. -/
def itemBackCard : Claim7 := { stood := { row := itemBackRow, standIns := [], harness := (true, "6b95b6a9b995b255b65f4e4d176739bf568d9ef0e7b5a95e6d6d8966cc4f4761"), looks := true }, kinds := [], alts := [], laidByText := true, laidKinds := [.data, .data], laidTests := true, laidLooks := .later }
def ItemBackCardSaid : Prop := Claim7.holds Tryd.pinned (.plain (OpenSpec.ofChange itemBackSpec)) itemBackCard

/-- THE TIED CARD OF 'colonnadelaw16.ItemFalls'. -/
def itemFallsCard : Claim7 := { stood := { row := itemFallsRow, standIns := [], harness := (true, "6b95b6a9b995b255b65f4e4d176739bf568d9ef0e7b5a95e6d6d8966cc4f4761"), looks := true }, kinds := [], alts := [], laidByText := true, laidKinds := [.data, .data], laidTests := true, laidLooks := .later }
def ItemFallsCardSaid : Prop := Claim7.holds Tryd.pinned (.plain (OpenSpec.ofChange itemFallsSpec)) itemFallsCard

/-- THE TIED CARD OF 'colonnadelaw16.ItemEnds'. -/
def itemEndsCard : Claim7 := { stood := { row := itemEndsRow, standIns := [], harness := (true, "6b95b6a9b995b255b65f4e4d176739bf568d9ef0e7b5a95e6d6d8966cc4f4761"), looks := true }, kinds := [], alts := [], laidByText := true, laidKinds := [.data, .data], laidTests := true, laidLooks := .later }
def ItemEndsCardSaid : Prop := Claim7.holds Tryd.pinned (.plain (OpenSpec.ofChange itemEndsSpec)) itemEndsCard

/-- THE SECOND FORM's CARD OF 'colonnadelaw16.ItemGrams'. -/
def itemGramsUptoCard : Claim7 := { stood := { row := itemGramsUptoRow, standIns := [], harness := (true, "6b95b6a9b995b255b65f4e4d176739bf568d9ef0e7b5a95e6d6d8966cc4f4761"), looks := true }, kinds := [], alts := [], laidByText := true, laidKinds := [.data, .data], laidTests := true, laidLooks := .later }
def ItemGramsUptoCardSaid : Prop := Claim7.holds Tryd.pinned (.plain (OpenSpec.upto itemGramsSpec)) itemGramsUptoCard

/-- THE SECOND FORM's CARD OF 'colonnadelaw16.ItemStreams'. -/
def itemStreamsUptoCard : Claim7 := { stood := { row := itemStreamsUptoRow, standIns := [], harness := (true, "6b95b6a9b995b255b65f4e4d176739bf568d9ef0e7b5a95e6d6d8966cc4f4761"), looks := true }, kinds := [], alts := [], laidByText := true, laidKinds := [.data, .data], laidTests := true, laidLooks := .later }
def ItemStreamsUptoCardSaid : Prop := Claim7.holds Tryd.pinned (.plain (OpenSpec.upto itemStreamsSpec)) itemStreamsUptoCard

/-- THE SECOND FORM's CARD OF 'colonnadelaw16.ItemBack'. -/
def itemBackUptoCard : Claim7 := { stood := { row := itemBackUptoRow, standIns := [], harness := (true, "6b95b6a9b995b255b65f4e4d176739bf568d9ef0e7b5a95e6d6d8966cc4f4761"), looks := true }, kinds := [], alts := [], laidByText := true, laidKinds := [.data, .data], laidTests := true, laidLooks := .later }
def ItemBackUptoCardSaid : Prop := Claim7.holds Tryd.pinned (.plain (OpenSpec.upto itemBackSpec)) itemBackUptoCard

/-- THE SECOND FORM's CARD OF 'colonnadelaw16.ItemFalls'. -/
def itemFallsUptoCard : Claim7 := { stood := { row := itemFallsUptoRow, standIns := [], harness := (true, "6b95b6a9b995b255b65f4e4d176739bf568d9ef0e7b5a95e6d6d8966cc4f4761"), looks := true }, kinds := [], alts := [], laidByText := true, laidKinds := [.data, .data], laidTests := true, laidLooks := .later }
def ItemFallsUptoCardSaid : Prop := Claim7.holds Tryd.pinned (.plain (OpenSpec.upto itemFallsSpec)) itemFallsUptoCard

/-- THE SECOND FORM's CARD OF 'colonnadelaw16.ItemEnds'. -/
def itemEndsUptoCard : Claim7 := { stood := { row := itemEndsUptoRow, standIns := [], harness := (true, "6b95b6a9b995b255b65f4e4d176739bf568d9ef0e7b5a95e6d6d8966cc4f4761"), looks := true }, kinds := [], alts := [], laidByText := true, laidKinds := [.data, .data], laidTests := true, laidLooks := .later }
def ItemEndsUptoCardSaid : Prop := Claim7.holds Tryd.pinned (.plain (OpenSpec.upto itemEndsSpec)) itemEndsUptoCard
end Rows
end Go.Proofs.YtpaglcojbcndoaaDoor
