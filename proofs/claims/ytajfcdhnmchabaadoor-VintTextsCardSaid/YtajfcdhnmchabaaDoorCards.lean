/-
  DERIVED. GIVEN WITH THE SEED: THE CARDS: each row of YtajfcdhnmchabaaDoorRows.lean that lists a variable, with what it lists TIED to the program's text (the seventh form; the later family's looks); each row that meets fmt, with fmt's text TOLD by the authors' own Lean function (tested against real Go, not proved from fmt's source: count such statements apart). THE CARD IS WHAT COUNTS. Prove the row's statement (the work); the ties are given (YtajfcdhnmchabaaDoorTie.lean); close each card by the builder's one call (the guide's Derived/Test/ToyasCard.lean, 'card_holds'). Laid BY PROGRAM, IN A SANDBOX (cutbox-door.mjs). By AI agents, Wed Nov 11 2026. No macro, syntax, notation, axiom, sorry.
-/
import Derived.Test.YtajfcdhnmchabaaDoorRows
import GoSem.ClaimSeven
namespace Go.Proofs.YtajfcdhnmchabaaDoor
namespace Rows

/-- THE TIED CARD OF 'colonnadelaw01.VintForms'. -/
def vintFormsCard : Claim7 := { stood := { row := vintFormsRow, standIns := [], harness := (true, "84f0ec1923138f58c850fce1475f5b25563250a294f62bccc4ff084de988a466"), looks := false }, kinds := [], alts := [], laidByText := true, laidKinds := [.data, .data], laidTests := true, laidLooks := .later }
def VintFormsCardSaid : Prop := Claim7.holds Tryd.pinned (.plain (OpenSpec.ofChange vintFormsSpec)) vintFormsCard

/-- THE TIED CARD OF 'colonnadelaw01.VintReads'. -/
def vintReadsCard : Claim7 := { stood := { row := vintReadsRow, standIns := [], harness := (true, "84f0ec1923138f58c850fce1475f5b25563250a294f62bccc4ff084de988a466"), looks := false }, kinds := [], alts := [], laidByText := true, laidKinds := [.data, .data], laidTests := true, laidLooks := .later }
def VintReadsCardSaid : Prop := Claim7.holds Tryd.pinned (.plain (OpenSpec.ofChange vintReadsSpec)) vintReadsCard

/-- THE TIED CARD OF 'colonnadelaw01.VintTexts'. -/
def vintTextsCard : Claim7 := { stood := { row := vintTextsRow, standIns := [], harness := (true, "84f0ec1923138f58c850fce1475f5b25563250a294f62bccc4ff084de988a466"), looks := false }, kinds := [], alts := [], laidByText := true, laidKinds := [.data, .data], laidTests := true, laidLooks := .later }
def VintTextsCardSaid : Prop := Claim7.holds Tryd.pinned (.plain (OpenSpec.ofChange vintTextsSpec)) vintTextsCard

/-- THE TIED CARD OF 'colonnadelaw01.VintGrows'. -/
def vintGrowsCard : Claim7 := { stood := { row := vintGrowsRow, standIns := [], harness := (true, "84f0ec1923138f58c850fce1475f5b25563250a294f62bccc4ff084de988a466"), looks := false }, kinds := [], alts := [], laidByText := true, laidKinds := [.data, .data], laidTests := true, laidLooks := .later }
def VintGrowsCardSaid : Prop := Claim7.holds Tryd.pinned (.plain (OpenSpec.ofChange vintGrowsSpec)) vintGrowsCard

/-- THE TIED CARD OF 'colonnadelaw01.VintJoins'. -/
def vintJoinsCard : Claim7 := { stood := { row := vintJoinsRow, standIns := [], harness := (true, "84f0ec1923138f58c850fce1475f5b25563250a294f62bccc4ff084de988a466"), looks := false }, kinds := [], alts := [], laidByText := true, laidKinds := [.data, .data], laidTests := true, laidLooks := .later }
def VintJoinsCardSaid : Prop := Claim7.holds Tryd.pinned (.plain (OpenSpec.ofChange vintJoinsSpec)) vintJoinsCard

/-- THE SECOND FORM's CARD OF 'colonnadelaw01.VintForms'. -/
def vintFormsUptoCard : Claim7 := { stood := { row := vintFormsUptoRow, standIns := [], harness := (true, "84f0ec1923138f58c850fce1475f5b25563250a294f62bccc4ff084de988a466"), looks := false }, kinds := [], alts := [], laidByText := true, laidKinds := [.data, .data], laidTests := true, laidLooks := .later }
def VintFormsUptoCardSaid : Prop := Claim7.holds Tryd.pinned (.plain (OpenSpec.upto vintFormsSpec)) vintFormsUptoCard

/-- THE SECOND FORM's CARD OF 'colonnadelaw01.VintReads'. -/
def vintReadsUptoCard : Claim7 := { stood := { row := vintReadsUptoRow, standIns := [], harness := (true, "84f0ec1923138f58c850fce1475f5b25563250a294f62bccc4ff084de988a466"), looks := false }, kinds := [], alts := [], laidByText := true, laidKinds := [.data, .data], laidTests := true, laidLooks := .later }
def VintReadsUptoCardSaid : Prop := Claim7.holds Tryd.pinned (.plain (OpenSpec.upto vintReadsSpec)) vintReadsUptoCard

/-- THE SECOND FORM's CARD OF 'colonnadelaw01.VintTexts'. -/
def vintTextsUptoCard : Claim7 := { stood := { row := vintTextsUptoRow, standIns := [], harness := (true, "84f0ec1923138f58c850fce1475f5b25563250a294f62bccc4ff084de988a466"), looks := false }, kinds := [], alts := [], laidByText := true, laidKinds := [.data, .data], laidTests := true, laidLooks := .later }
def VintTextsUptoCardSaid : Prop := Claim7.holds Tryd.pinned (.plain (OpenSpec.upto vintTextsSpec)) vintTextsUptoCard

/-- THE SECOND FORM's CARD OF 'colonnadelaw01.VintGrows'. -/
def vintGrowsUptoCard : Claim7 := { stood := { row := vintGrowsUptoRow, standIns := [], harness := (true, "84f0ec1923138f58c850fce1475f5b25563250a294f62bccc4ff084de988a466"), looks := false }, kinds := [], alts := [], laidByText := true, laidKinds := [.data, .data], laidTests := true, laidLooks := .later }
def VintGrowsUptoCardSaid : Prop := Claim7.holds Tryd.pinned (.plain (OpenSpec.upto vintGrowsSpec)) vintGrowsUptoCard

/-- THE SECOND FORM's CARD OF 'colonnadelaw01.VintJoins'. -/
def vintJoinsUptoCard : Claim7 := { stood := { row := vintJoinsUptoRow, standIns := [], harness := (true, "84f0ec1923138f58c850fce1475f5b25563250a294f62bccc4ff084de988a466"), looks := false }, kinds := [], alts := [], laidByText := true, laidKinds := [.data, .data], laidTests := true, laidLooks := .later }
def VintJoinsUptoCardSaid : Prop := Claim7.holds Tryd.pinned (.plain (OpenSpec.upto vintJoinsSpec)) vintJoinsUptoCard
end Rows
end Go.Proofs.YtajfcdhnmchabaaDoor
