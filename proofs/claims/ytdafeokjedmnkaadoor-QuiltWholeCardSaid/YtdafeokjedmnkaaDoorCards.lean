/-
  DERIVED. GIVEN WITH THE SEED: THE CARDS: each row of YtdafeokjedmnkaaDoorRows.lean that lists a variable, with what it lists TIED to the program's text (the seventh form; the later family's looks); each row that meets fmt, with fmt's text TOLD by the authors' own Lean function (tested against real Go, not proved from fmt's source: count such statements apart). THE CARD IS WHAT COUNTS. Prove the row's statement (the work); the ties are given (YtdafeokjedmnkaaDoorTie.lean); close each card by the builder's one call (the guide's Derived/Test/ToyasCard.lean, 'card_holds'). Laid BY PROGRAM, IN A SANDBOX (cutbox-door.mjs). By AI agents, Wed Nov 11 2026. No macro, syntax, notation, axiom, sorry.
-/
import Derived.Test.YtdafeokjedmnkaaDoorRows
import GoSem.ClaimSeven
namespace Go.Proofs.YtdafeokjedmnkaaDoor
namespace Rows

/-- THE TIED CARD OF 'colonnadelaw10.QuiltPlays'. -/
def quiltPlaysCard : Claim7 := { stood := { row := quiltPlaysRow, standIns := [], harness := (true, "d9a1f4af1b1d47c8d861fb8588a9db2cc1d1cfb8ff4fc15aac29f43d0710d980"), looks := false }, kinds := [], alts := [], laidByText := true, laidKinds := [.data], laidTests := true, laidLooks := .later }
def QuiltPlaysCardSaid : Prop := Claim7.holds Tryd.pinned (.plain (OpenSpec.ofChange quiltPlaysSpec)) quiltPlaysCard

/-- THE TIED CARD OF 'colonnadelaw10.QuiltWhole'. -/
def quiltWholeCard : Claim7 := { stood := { row := quiltWholeRow, standIns := [], harness := (true, "d9a1f4af1b1d47c8d861fb8588a9db2cc1d1cfb8ff4fc15aac29f43d0710d980"), looks := false }, kinds := [], alts := [], laidByText := true, laidKinds := [.data], laidTests := true, laidLooks := .later }
def QuiltWholeCardSaid : Prop := Claim7.holds Tryd.pinned (.plain (OpenSpec.ofChange quiltWholeSpec)) quiltWholeCard

/-- THE TIED CARD OF 'colonnadelaw10.QuiltEnds'. -/
def quiltEndsCard : Claim7 := { stood := { row := quiltEndsRow, standIns := [], harness := (true, "d9a1f4af1b1d47c8d861fb8588a9db2cc1d1cfb8ff4fc15aac29f43d0710d980"), looks := false }, kinds := [], alts := [], laidByText := true, laidKinds := [.data], laidTests := true, laidLooks := .later }
def QuiltEndsCardSaid : Prop := Claim7.holds Tryd.pinned (.plain (OpenSpec.ofChange quiltEndsSpec)) quiltEndsCard

/-- THE TIED CARD OF 'colonnadelaw10.QuiltFirst'. -/
def quiltFirstCard : Claim7 := { stood := { row := quiltFirstRow, standIns := [], harness := (true, "d9a1f4af1b1d47c8d861fb8588a9db2cc1d1cfb8ff4fc15aac29f43d0710d980"), looks := false }, kinds := [], alts := [], laidByText := true, laidKinds := [.data], laidTests := true, laidLooks := .later }
def QuiltFirstCardSaid : Prop := Claim7.holds Tryd.pinned (.plain (OpenSpec.ofChange quiltFirstSpec)) quiltFirstCard

/-- THE TIED CARD OF 'colonnadelaw10.QuiltSums'. -/
def quiltSumsCard : Claim7 := { stood := { row := quiltSumsRow, standIns := [], harness := (true, "d9a1f4af1b1d47c8d861fb8588a9db2cc1d1cfb8ff4fc15aac29f43d0710d980"), looks := false }, kinds := [], alts := [], laidByText := true, laidKinds := [.data], laidTests := true, laidLooks := .later }
def QuiltSumsCardSaid : Prop := Claim7.holds Tryd.pinned (.plain (OpenSpec.ofChange quiltSumsSpec)) quiltSumsCard

/-- THE SECOND FORM's CARD OF 'colonnadelaw10.QuiltPlays'. -/
def quiltPlaysUptoCard : Claim7 := { stood := { row := quiltPlaysUptoRow, standIns := [], harness := (true, "d9a1f4af1b1d47c8d861fb8588a9db2cc1d1cfb8ff4fc15aac29f43d0710d980"), looks := false }, kinds := [], alts := [], laidByText := true, laidKinds := [.data], laidTests := true, laidLooks := .later }
def QuiltPlaysUptoCardSaid : Prop := Claim7.holds Tryd.pinned (.plain (OpenSpec.upto quiltPlaysSpec)) quiltPlaysUptoCard

/-- THE SECOND FORM's CARD OF 'colonnadelaw10.QuiltWhole'. -/
def quiltWholeUptoCard : Claim7 := { stood := { row := quiltWholeUptoRow, standIns := [], harness := (true, "d9a1f4af1b1d47c8d861fb8588a9db2cc1d1cfb8ff4fc15aac29f43d0710d980"), looks := false }, kinds := [], alts := [], laidByText := true, laidKinds := [.data], laidTests := true, laidLooks := .later }
def QuiltWholeUptoCardSaid : Prop := Claim7.holds Tryd.pinned (.plain (OpenSpec.upto quiltWholeSpec)) quiltWholeUptoCard

/-- THE SECOND FORM's CARD OF 'colonnadelaw10.QuiltEnds'. -/
def quiltEndsUptoCard : Claim7 := { stood := { row := quiltEndsUptoRow, standIns := [], harness := (true, "d9a1f4af1b1d47c8d861fb8588a9db2cc1d1cfb8ff4fc15aac29f43d0710d980"), looks := false }, kinds := [], alts := [], laidByText := true, laidKinds := [.data], laidTests := true, laidLooks := .later }
def QuiltEndsUptoCardSaid : Prop := Claim7.holds Tryd.pinned (.plain (OpenSpec.upto quiltEndsSpec)) quiltEndsUptoCard

/-- THE SECOND FORM's CARD OF 'colonnadelaw10.QuiltFirst'. -/
def quiltFirstUptoCard : Claim7 := { stood := { row := quiltFirstUptoRow, standIns := [], harness := (true, "d9a1f4af1b1d47c8d861fb8588a9db2cc1d1cfb8ff4fc15aac29f43d0710d980"), looks := false }, kinds := [], alts := [], laidByText := true, laidKinds := [.data], laidTests := true, laidLooks := .later }
def QuiltFirstUptoCardSaid : Prop := Claim7.holds Tryd.pinned (.plain (OpenSpec.upto quiltFirstSpec)) quiltFirstUptoCard

/-- THE SECOND FORM's CARD OF 'colonnadelaw10.QuiltSums'. -/
def quiltSumsUptoCard : Claim7 := { stood := { row := quiltSumsUptoRow, standIns := [], harness := (true, "d9a1f4af1b1d47c8d861fb8588a9db2cc1d1cfb8ff4fc15aac29f43d0710d980"), looks := false }, kinds := [], alts := [], laidByText := true, laidKinds := [.data], laidTests := true, laidLooks := .later }
def QuiltSumsUptoCardSaid : Prop := Claim7.holds Tryd.pinned (.plain (OpenSpec.upto quiltSumsSpec)) quiltSumsUptoCard
end Rows
end Go.Proofs.YtdafeokjedmnkaaDoor
