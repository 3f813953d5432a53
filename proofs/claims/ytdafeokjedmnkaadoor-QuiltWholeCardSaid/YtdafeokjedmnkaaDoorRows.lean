/-
  NARROWER THAN 'FOR EVERY INPUT', by the rows' own cells (each row's printed sentence says how): QuiltPlays: laid · QuiltWhole: laid · QuiltEnds: laid · QuiltFirst: laid · QuiltSums: laid.
  DERIVED. THE GIVEN ROWS OF THIS SEAT. 5 by the template 'for every input the law returns true; each argument reads behind the call as it read before'; 0 by the template 'total and deterministic' (their statements: YtdafeokjedmnkaaDoorTotals.lean).
  GIVEN WITH THE SEED: the statements are not yours to turn. If you find one false, say at which input.
  Laid BY PROGRAM, IN A SANDBOX (cutbox-rows.mjs): the forced cells as the released guide's own fill.sh prints them over the translation b1e72fa3aa89dc9b… (all of the seat's roots in one cut). By AI agents, Wed Nov 11 2026. No macro, syntax, notation, axiom, sorry.
-/
import Derived.Test.YtdafeokjedmnkaaDoorChecked
import GoSem.Claim
import GoSem.ClaimJoined
import GoSem.ClaimMapViews
import Derived.JoinedTies
import Derived.KernelRfl
namespace Go.Proofs.YtdafeokjedmnkaaDoor
/- THE CELL 'sum', in the pinned program and in every row, IS THE sha256 OF THE DUMP (.gsa) THAT YtdafeokjedmnkaaDoorProg.lean LOADS. Nothing in Lean hashes anything: it is a label: what it is worth is what the hold of that sum in a sandbox is worth. -/
noncomputable def Tryd.pinned : Pinned := { name := "ytdafeokjedmnkaadoor", sum := "b1e72fa3aa89dc9b93d9cf0c2de602cd6cc3ea9085c7a7173b37c5a841185685", checked := Tryd.checked }
namespace Rows
def none {H : Type} : Left H := { results := [], args := [] }

/- WHAT THE LISTED PACKAGE-LEVEL VARIABLES READ AS WHEN THE CALL BEGINS. Each datum BY PROGRAM (the guide's laid-datum.mjs) off the statement by which the dump's own 'gosem.cut.vars' lays the variable. In a bare row this is a premise. The card (YtdafeokjedmnkaaDoorCards.lean) ties it to the program's text. -/
def laid_math_bits_deBruijn64tab {H : Type} : DataW H := .agg [.lit (.int .u8 0), .lit (.int .u8 1), .lit (.int .u8 56), .lit (.int .u8 2), .lit (.int .u8 57), .lit (.int .u8 49), .lit (.int .u8 28), .lit (.int .u8 3), .lit (.int .u8 61), .lit (.int .u8 58), .lit (.int .u8 42), .lit (.int .u8 50), .lit (.int .u8 38), .lit (.int .u8 29), .lit (.int .u8 17), .lit (.int .u8 4), .lit (.int .u8 62), .lit (.int .u8 47), .lit (.int .u8 59), .lit (.int .u8 36), .lit (.int .u8 45), .lit (.int .u8 43), .lit (.int .u8 51), .lit (.int .u8 22), .lit (.int .u8 53), .lit (.int .u8 39), .lit (.int .u8 33), .lit (.int .u8 30), .lit (.int .u8 24), .lit (.int .u8 18), .lit (.int .u8 12), .lit (.int .u8 5), .lit (.int .u8 63), .lit (.int .u8 55), .lit (.int .u8 48), .lit (.int .u8 27), .lit (.int .u8 60), .lit (.int .u8 41), .lit (.int .u8 37), .lit (.int .u8 16), .lit (.int .u8 46), .lit (.int .u8 35), .lit (.int .u8 44), .lit (.int .u8 21), .lit (.int .u8 52), .lit (.int .u8 32), .lit (.int .u8 23), .lit (.int .u8 11), .lit (.int .u8 54), .lit (.int .u8 26), .lit (.int .u8 40), .lit (.int .u8 15), .lit (.int .u8 34), .lit (.int .u8 20), .lit (.int .u8 31), .lit (.int .u8 10), .lit (.int .u8 25), .lit (.int .u8 14), .lit (.int .u8 19), .lit (.int .u8 9), .lit (.int .u8 13), .lit (.int .u8 8), .lit (.int .u8 7), .lit (.int .u8 6)]

/-- 'colonnadelaw10.QuiltPlays': WHATEVER THE INPUT: true; the input reads as it did. -/
def quiltPlaysSpec : ChangeSpec := { name := "quiltPlays", fn := fun _ => fun
  | [d1, d2] => { results := [.lit (.bool true)], args := [d1, d2] }
  | _ => none }
def quiltPlaysRow : OpenClaim := { program := "ytdafeokjedmnkaadoor", sum := "b1e72fa3aa89dc9b93d9cf0c2de602cd6cc3ea9085c7a7173b37c5a841185685", func := "colonnade/colonnadelaw10.QuiltPlays", spec := "quiltPlays", named := ["math/bits.deBruijn64tab"], apart := false, laid := [("math/bits.deBruijn64tab", laid_math_bits_deBruijn64tab)] }
def QuiltPlaysSaid : Prop := quiltPlaysRow.holds Tryd.pinned (OpenSpec.ofChange quiltPlaysSpec)

/-- ITS FALSE NEIGHBOUR: 'it returns false'. Refute it at one input. -/
def quiltPlaysWrong : ChangeSpec := { name := "quiltPlays", fn := fun _ => fun
  | [d1, d2] => { results := [.lit (.bool false)], args := [d1, d2] }
  | _ => none }
def QuiltPlaysWrongFalsely : Prop := quiltPlaysRow.holds Tryd.pinned (OpenSpec.ofChange quiltPlaysWrong)

/-- 'colonnadelaw10.QuiltWhole': WHATEVER THE INPUT: true; the input reads as it did. -/
def quiltWholeSpec : ChangeSpec := { name := "quiltWhole", fn := fun _ => fun
  | [d1, d2, d3, d4] => { results := [.lit (.bool true)], args := [d1, d2, d3, d4] }
  | _ => none }
def quiltWholeRow : OpenClaim := { program := "ytdafeokjedmnkaadoor", sum := "b1e72fa3aa89dc9b93d9cf0c2de602cd6cc3ea9085c7a7173b37c5a841185685", func := "colonnade/colonnadelaw10.QuiltWhole", spec := "quiltWhole", unfollowed := true, recurses := true, named := ["math/bits.deBruijn64tab"], apart := false, laid := [("math/bits.deBruijn64tab", laid_math_bits_deBruijn64tab)] }
def QuiltWholeSaid : Prop := quiltWholeRow.holds Tryd.pinned (OpenSpec.ofChange quiltWholeSpec)

/-- ITS FALSE NEIGHBOUR: 'it returns false'. Refute it at one input. -/
def quiltWholeWrong : ChangeSpec := { name := "quiltWhole", fn := fun _ => fun
  | [d1, d2, d3, d4] => { results := [.lit (.bool false)], args := [d1, d2, d3, d4] }
  | _ => none }
def QuiltWholeWrongFalsely : Prop := quiltWholeRow.holds Tryd.pinned (OpenSpec.ofChange quiltWholeWrong)

/-- 'colonnadelaw10.QuiltEnds': WHATEVER THE INPUT: true; the input reads as it did. -/
def quiltEndsSpec : ChangeSpec := { name := "quiltEnds", fn := fun _ => fun
  | [d1, d2, d3, d4] => { results := [.lit (.bool true)], args := [d1, d2, d3, d4] }
  | _ => none }
def quiltEndsRow : OpenClaim := { program := "ytdafeokjedmnkaadoor", sum := "b1e72fa3aa89dc9b93d9cf0c2de602cd6cc3ea9085c7a7173b37c5a841185685", func := "colonnade/colonnadelaw10.QuiltEnds", spec := "quiltEnds", named := ["math/bits.deBruijn64tab"], apart := false, laid := [("math/bits.deBruijn64tab", laid_math_bits_deBruijn64tab)] }
def QuiltEndsSaid : Prop := quiltEndsRow.holds Tryd.pinned (OpenSpec.ofChange quiltEndsSpec)

/-- ITS FALSE NEIGHBOUR: 'it returns false'. Refute it at one input. -/
def quiltEndsWrong : ChangeSpec := { name := "quiltEnds", fn := fun _ => fun
  | [d1, d2, d3, d4] => { results := [.lit (.bool false)], args := [d1, d2, d3, d4] }
  | _ => none }
def QuiltEndsWrongFalsely : Prop := quiltEndsRow.holds Tryd.pinned (OpenSpec.ofChange quiltEndsWrong)

/-- 'colonnadelaw10.QuiltFirst': WHATEVER THE INPUT: true; the input reads as it did. -/
def quiltFirstSpec : ChangeSpec := { name := "quiltFirst", fn := fun _ => fun
  | [d1, d2, d3] => { results := [.lit (.bool true)], args := [d1, d2, d3] }
  | _ => none }
def quiltFirstRow : OpenClaim := { program := "ytdafeokjedmnkaadoor", sum := "b1e72fa3aa89dc9b93d9cf0c2de602cd6cc3ea9085c7a7173b37c5a841185685", func := "colonnade/colonnadelaw10.QuiltFirst", spec := "quiltFirst", named := ["math/bits.deBruijn64tab"], apart := false, laid := [("math/bits.deBruijn64tab", laid_math_bits_deBruijn64tab)] }
def QuiltFirstSaid : Prop := quiltFirstRow.holds Tryd.pinned (OpenSpec.ofChange quiltFirstSpec)

/-- ITS FALSE NEIGHBOUR: 'it returns false'. Refute it at one input. -/
def quiltFirstWrong : ChangeSpec := { name := "quiltFirst", fn := fun _ => fun
  | [d1, d2, d3] => { results := [.lit (.bool false)], args := [d1, d2, d3] }
  | _ => none }
def QuiltFirstWrongFalsely : Prop := quiltFirstRow.holds Tryd.pinned (OpenSpec.ofChange quiltFirstWrong)

/-- 'colonnadelaw10.QuiltSums': WHATEVER THE INPUT: true; the input reads as it did. -/
def quiltSumsSpec : ChangeSpec := { name := "quiltSums", fn := fun _ => fun
  | [d] => { results := [.lit (.bool true)], args := [d] }
  | _ => none }
def quiltSumsRow : OpenClaim := { program := "ytdafeokjedmnkaadoor", sum := "b1e72fa3aa89dc9b93d9cf0c2de602cd6cc3ea9085c7a7173b37c5a841185685", func := "colonnade/colonnadelaw10.QuiltSums", spec := "quiltSums", named := ["math/bits.deBruijn64tab"], apart := false, laid := [("math/bits.deBruijn64tab", laid_math_bits_deBruijn64tab)] }
def QuiltSumsSaid : Prop := quiltSumsRow.holds Tryd.pinned (OpenSpec.ofChange quiltSumsSpec)

/-- ITS FALSE NEIGHBOUR: 'it returns false'. Refute it at one input. -/
def quiltSumsWrong : ChangeSpec := { name := "quiltSums", fn := fun _ => fun
  | [d] => { results := [.lit (.bool false)], args := [d] }
  | _ => none }
def QuiltSumsWrongFalsely : Prop := quiltSumsRow.holds Tryd.pinned (OpenSpec.ofChange quiltSumsWrong)

/- THE SECOND FORM. 'bulk': how many values and letters a reading holds, each counted each time it is reached (what is shared counts as often as it is met; a slice's spare places count too). A statement '..UptoSaid' is the law's where the arguments, and the package variables that the reading takes, are together of bulk at most 1048576: NARROWER than '..Said'. Prove '..Said' where nothing that the law and all that it calls make is longer than what came in: it says more and counts as full. Else prove '..UptoSaid'. A law counts once. -/
mutual
def uptoBulk {H : Type} : DataW H → Nat
  | .lit (.string bytes) => bytes.length + 1
  | .lit _ => 1
  | .nil => 1
  | .ptr d => uptoBulk d + 1
  | .slice elems spare => uptoBulkAll elems + uptoBulkAll spare + 1
  | .agg parts => uptoBulkAll parts + 1
  | .iface _ d => uptoBulk d + 1
  | .map entries => uptoBulkEntries entries + 1
  | .held _ => 1
def uptoBulkAll {H : Type} : List (DataW H) → Nat
  | [] => 0
  | d :: r => uptoBulk d + uptoBulkAll r
def uptoBulkEntries {H : Type} : List (Lit × DataW H) → Nat
  | [] => 0
  | x :: r => uptoBulkEntry x + uptoBulkEntries r
def uptoBulkEntry {H : Type} : Lit × DataW H → Nat
  | (.string bytes, d) => bytes.length + uptoBulk d + 1
  | (_, d) => uptoBulk d + 1
 end
def uptoSmall : (H : Type) → List (DataW H) → Bool := fun _ ds => decide (uptoBulkAll ds ≤ 1048576)
def OpenSpec.upto (s : _root_.Go.ChangeSpec) : _root_.Go.OpenSpec := { _root_.Go.OpenSpec.ofChange s with cond := some uptoSmall }

/-- 'colonnadelaw10.QuiltPlays', WHERE WHAT IT READS IS OF BULK AT MOST 1048576: true; the input reads as it did. -/
def quiltPlaysUptoRow : OpenClaim := { program := "ytdafeokjedmnkaadoor", sum := "b1e72fa3aa89dc9b93d9cf0c2de602cd6cc3ea9085c7a7173b37c5a841185685", func := "colonnade/colonnadelaw10.QuiltPlays", spec := "quiltPlays", named := ["math/bits.deBruijn64tab"], apart := false, laid := [("math/bits.deBruijn64tab", laid_math_bits_deBruijn64tab)], narrowed := true }
def QuiltPlaysUptoSaid : Prop := quiltPlaysUptoRow.holds Tryd.pinned (OpenSpec.upto quiltPlaysSpec)

/-- 'colonnadelaw10.QuiltWhole', WHERE WHAT IT READS IS OF BULK AT MOST 1048576: true; the input reads as it did. -/
def quiltWholeUptoRow : OpenClaim := { program := "ytdafeokjedmnkaadoor", sum := "b1e72fa3aa89dc9b93d9cf0c2de602cd6cc3ea9085c7a7173b37c5a841185685", func := "colonnade/colonnadelaw10.QuiltWhole", spec := "quiltWhole", unfollowed := true, recurses := true, named := ["math/bits.deBruijn64tab"], apart := false, laid := [("math/bits.deBruijn64tab", laid_math_bits_deBruijn64tab)], narrowed := true }
def QuiltWholeUptoSaid : Prop := quiltWholeUptoRow.holds Tryd.pinned (OpenSpec.upto quiltWholeSpec)

/-- 'colonnadelaw10.QuiltEnds', WHERE WHAT IT READS IS OF BULK AT MOST 1048576: true; the input reads as it did. -/
def quiltEndsUptoRow : OpenClaim := { program := "ytdafeokjedmnkaadoor", sum := "b1e72fa3aa89dc9b93d9cf0c2de602cd6cc3ea9085c7a7173b37c5a841185685", func := "colonnade/colonnadelaw10.QuiltEnds", spec := "quiltEnds", named := ["math/bits.deBruijn64tab"], apart := false, laid := [("math/bits.deBruijn64tab", laid_math_bits_deBruijn64tab)], narrowed := true }
def QuiltEndsUptoSaid : Prop := quiltEndsUptoRow.holds Tryd.pinned (OpenSpec.upto quiltEndsSpec)

/-- 'colonnadelaw10.QuiltFirst', WHERE WHAT IT READS IS OF BULK AT MOST 1048576: true; the input reads as it did. -/
def quiltFirstUptoRow : OpenClaim := { program := "ytdafeokjedmnkaadoor", sum := "b1e72fa3aa89dc9b93d9cf0c2de602cd6cc3ea9085c7a7173b37c5a841185685", func := "colonnade/colonnadelaw10.QuiltFirst", spec := "quiltFirst", named := ["math/bits.deBruijn64tab"], apart := false, laid := [("math/bits.deBruijn64tab", laid_math_bits_deBruijn64tab)], narrowed := true }
def QuiltFirstUptoSaid : Prop := quiltFirstUptoRow.holds Tryd.pinned (OpenSpec.upto quiltFirstSpec)

/-- 'colonnadelaw10.QuiltSums', WHERE WHAT IT READS IS OF BULK AT MOST 1048576: true; the input reads as it did. -/
def quiltSumsUptoRow : OpenClaim := { program := "ytdafeokjedmnkaadoor", sum := "b1e72fa3aa89dc9b93d9cf0c2de602cd6cc3ea9085c7a7173b37c5a841185685", func := "colonnade/colonnadelaw10.QuiltSums", spec := "quiltSums", named := ["math/bits.deBruijn64tab"], apart := false, laid := [("math/bits.deBruijn64tab", laid_math_bits_deBruijn64tab)], narrowed := true }
def QuiltSumsUptoSaid : Prop := quiltSumsUptoRow.holds Tryd.pinned (OpenSpec.upto quiltSumsSpec)

end Rows
end Go.Proofs.YtdafeokjedmnkaaDoor
