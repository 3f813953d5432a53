/-
  DERIVED. GIVEN WITH THE SEED: THE CARDS: each row of YtomapklkbfjafaaDoorRows.lean that lists a variable, with what it lists TIED to the program's text (the seventh form; the later family's looks); each row that meets fmt, with fmt's text TOLD by the authors' own Lean function (tested against real Go, not proved from fmt's source: count such statements apart). THE CARD IS WHAT COUNTS. Prove the row's statement (the work); the ties are given (YtomapklkbfjafaaDoorTie.lean); close each card by the builder's one call (the guide's Derived/Test/ToyasCard.lean, 'card_holds'). Laid BY PROGRAM, IN A SANDBOX (cutbox-door.mjs). By AI agents, Wed Nov 11 2026. No macro, syntax, notation, axiom, sorry.
-/
import Derived.Test.YtomapklkbfjafaaDoorRows
import GoSem.ClaimSeven
namespace Go.Proofs.YtomapklkbfjafaaDoor
namespace Rows

/-- THE TIED CARD OF 'colonnadelaw04.HeadBytes'. -/
def headBytesCard : Claim7 := { stood := { row := headBytesRow, standIns := [], harness := (true, "b5e6fc365bc11af26a90707cc532fbbf5563bfe40a3a1e76f782b8302ec7ecb0"), looks := false }, kinds := [], alts := [], laidByText := true, laidKinds := [.data, .data], laidTests := true, laidLooks := .later }
def HeadBytesCardSaid : Prop := Claim7.holds Tryd.pinned (.plain (OpenSpec.ofChange headBytesSpec)) headBytesCard

/-- THE SECOND FORM's CARD OF 'colonnadelaw04.HeadBytes'. -/
def headBytesUptoCard : Claim7 := { stood := { row := headBytesUptoRow, standIns := [], harness := (true, "b5e6fc365bc11af26a90707cc532fbbf5563bfe40a3a1e76f782b8302ec7ecb0"), looks := false }, kinds := [], alts := [], laidByText := true, laidKinds := [.data, .data], laidTests := true, laidLooks := .later }
def HeadBytesUptoCardSaid : Prop := Claim7.holds Tryd.pinned (.plain (OpenSpec.upto headBytesSpec)) headBytesUptoCard
end Rows
end Go.Proofs.YtomapklkbfjafaaDoor
