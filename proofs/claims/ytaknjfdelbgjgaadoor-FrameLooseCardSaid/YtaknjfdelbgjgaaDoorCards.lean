/-
  DERIVED. GIVEN WITH THE SEED: THE CARDS: each row of YtaknjfdelbgjgaaDoorRows.lean that lists a variable, with what it lists TIED to the program's text (the seventh form; the later family's looks); each row that meets fmt, with fmt's text TOLD by the authors' own Lean function (tested against real Go, not proved from fmt's source: count such statements apart). THE CARD IS WHAT COUNTS. Prove the row's statement (the work); the ties are given (YtaknjfdelbgjgaaDoorTie.lean); close each card by the builder's one call (the guide's Derived/Test/ToyasCard.lean, 'card_holds'). Laid BY PROGRAM, IN A SANDBOX (cutbox-door.mjs). By AI agents, Wed Nov 11 2026. No macro, syntax, notation, axiom, sorry.
-/
import Derived.Test.YtaknjfdelbgjgaaDoorRows
import GoSem.ClaimSeven
namespace Go.Proofs.YtaknjfdelbgjgaaDoor
namespace Rows

/-- THE TIED CARD OF 'colonnadelaw05.FrameLoose'. -/
def frameLooseCard : Claim7 := { stood := { row := frameLooseRow, standIns := [], harness := (true, "da16e9272f4afe4f3f83e9a18751f23c3081656f8002ae936c9dd602642c5a92"), looks := false }, kinds := [], alts := [], laidByText := true, laidKinds := [.data, .data], laidTests := true, laidLooks := .later }
def FrameLooseCardSaid : Prop := Claim7.holds Tryd.pinned (.plain (OpenSpec.ofChange frameLooseSpec)) frameLooseCard

/-- THE TIED CARD OF 'colonnadelaw05.FrameEnds'. -/
def frameEndsCard : Claim7 := { stood := { row := frameEndsRow, standIns := [], harness := (true, "da16e9272f4afe4f3f83e9a18751f23c3081656f8002ae936c9dd602642c5a92"), looks := false }, kinds := [], alts := [], laidByText := true, laidKinds := [.data, .data], laidTests := true, laidLooks := .later }
def FrameEndsCardSaid : Prop := Claim7.holds Tryd.pinned (.plain (OpenSpec.ofChange frameEndsSpec)) frameEndsCard

/-- THE SECOND FORM's CARD OF 'colonnadelaw05.FrameLoose'. -/
def frameLooseUptoCard : Claim7 := { stood := { row := frameLooseUptoRow, standIns := [], harness := (true, "da16e9272f4afe4f3f83e9a18751f23c3081656f8002ae936c9dd602642c5a92"), looks := false }, kinds := [], alts := [], laidByText := true, laidKinds := [.data, .data], laidTests := true, laidLooks := .later }
def FrameLooseUptoCardSaid : Prop := Claim7.holds Tryd.pinned (.plain (OpenSpec.upto frameLooseSpec)) frameLooseUptoCard

/-- THE SECOND FORM's CARD OF 'colonnadelaw05.FrameEnds'. -/
def frameEndsUptoCard : Claim7 := { stood := { row := frameEndsUptoRow, standIns := [], harness := (true, "da16e9272f4afe4f3f83e9a18751f23c3081656f8002ae936c9dd602642c5a92"), looks := false }, kinds := [], alts := [], laidByText := true, laidKinds := [.data, .data], laidTests := true, laidLooks := .later }
def FrameEndsUptoCardSaid : Prop := Claim7.holds Tryd.pinned (.plain (OpenSpec.upto frameEndsSpec)) frameEndsUptoCard
end Rows
end Go.Proofs.YtaknjfdelbgjgaaDoor
