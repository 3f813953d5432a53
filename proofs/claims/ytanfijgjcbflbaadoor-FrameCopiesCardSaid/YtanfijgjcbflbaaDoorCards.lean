/-
  DERIVED. GIVEN WITH THE SEED: THE CARDS: each row of YtanfijgjcbflbaaDoorRows.lean that lists a variable, with what it lists TIED to the program's text (the seventh form; the later family's looks); each row that meets fmt, with fmt's text TOLD by the authors' own Lean function (tested against real Go, not proved from fmt's source: count such statements apart). THE CARD IS WHAT COUNTS. Prove the row's statement (the work); the ties are given (YtanfijgjcbflbaaDoorTie.lean); close each card by the builder's one call (the guide's Derived/Test/ToyasCard.lean, 'card_holds'). Laid BY PROGRAM, IN A SANDBOX (cutbox-door.mjs). By AI agents, Wed Nov 11 2026. No macro, syntax, notation, axiom, sorry.
-/
import Derived.Test.YtanfijgjcbflbaaDoorRows
import GoSem.ClaimSeven
namespace Go.Proofs.YtanfijgjcbflbaaDoor
namespace Rows

/-- THE TIED CARD OF 'colonnadelaw05.FrameCopies'. -/
def frameCopiesCard : Claim7 := { stood := { row := frameCopiesRow, standIns := [], harness := (true, "5e42ff1ed1cd1e5238e2a13ee8402f297cb0bcac0de94d110ccb47ab5e3e1225"), looks := false }, kinds := [], alts := [], laidByText := true, laidKinds := [.data, .data], laidTests := true, laidLooks := .later }
def FrameCopiesCardSaid : Prop := Claim7.holds Tryd.pinned (.plain (OpenSpec.ofChange frameCopiesSpec)) frameCopiesCard

/-- THE SECOND FORM's CARD OF 'colonnadelaw05.FrameCopies'. -/
def frameCopiesUptoCard : Claim7 := { stood := { row := frameCopiesUptoRow, standIns := [], harness := (true, "5e42ff1ed1cd1e5238e2a13ee8402f297cb0bcac0de94d110ccb47ab5e3e1225"), looks := false }, kinds := [], alts := [], laidByText := true, laidKinds := [.data, .data], laidTests := true, laidLooks := .later }
def FrameCopiesUptoCardSaid : Prop := Claim7.holds Tryd.pinned (.plain (OpenSpec.upto frameCopiesSpec)) frameCopiesUptoCard
end Rows
end Go.Proofs.YtanfijgjcbflbaaDoor
