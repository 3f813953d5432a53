/-
  No cell of these rows narrows 'for every input' (looked for: loops, veiled, ifaces, maps, wideKeys, modest, calm, conditions, laid).
  DERIVED. THE GIVEN ROWS OF THIS SEAT. 4 by the template 'for every input the law returns true; each argument reads behind the call as it read before'; 0 by the template 'total and deterministic' (their statements: YtomapklkbfjafaaTotals.lean).
  GIVEN WITH THE SEED: the statements are not yours to turn. If you find one false, say at which input.
  Laid BY PROGRAM, IN A SANDBOX (cutbox-rows.mjs): the forced cells as the released guide's own fill.sh prints them over the translation 128a5ba4a7692974… (all of the seat's roots in one cut). By AI agents, Wed Nov 11 2026. No macro, syntax, notation, axiom, sorry.
-/
import Derived.Test.YtomapklkbfjafaaChecked
import GoSem.Claim
import GoSem.ClaimJoined
import GoSem.ClaimMapViews
import Derived.JoinedTies
import Derived.KernelRfl
namespace Go.Proofs.Ytomapklkbfjafaa
/- THE CELL 'sum', in the pinned program and in every row, IS THE sha256 OF THE DUMP (.gsa) THAT YtomapklkbfjafaaProg.lean LOADS. Nothing in Lean hashes anything: it is a label: what it is worth is what the hold of that sum in a sandbox is worth. -/
noncomputable def Try.pinned : Pinned := { name := "ytomapklkbfjafaa", sum := "128a5ba4a769297489f5c086ee391d89571d1ca129859cec6a8a81eb1914cd36", checked := Try.checked }
namespace Rows
def none {H : Type} : Left H := { results := [], args := [] }

/-- 'colonnadelaw04.HeadReads': WHATEVER THE INPUT: true; the input reads as it did. -/
def headReadsSpec : ChangeSpec := { name := "headReads", fn := fun _ => fun
  | [d] => { results := [.lit (.bool true)], args := [d] }
  | _ => none }
def headReadsRow : OpenClaim := { program := "ytomapklkbfjafaa", sum := "128a5ba4a769297489f5c086ee391d89571d1ca129859cec6a8a81eb1914cd36", func := "colonnade/colonnadelaw04.HeadReads", spec := "headReads", apart := false }
def HeadReadsSaid : Prop := headReadsRow.holds Try.pinned (OpenSpec.ofChange headReadsSpec)

/-- ITS FALSE NEIGHBOUR: 'it returns false'. Refute it at one input. -/
def headReadsWrong : ChangeSpec := { name := "headReads", fn := fun _ => fun
  | [d] => { results := [.lit (.bool false)], args := [d] }
  | _ => none }
def HeadReadsWrongFalsely : Prop := headReadsRow.holds Try.pinned (OpenSpec.ofChange headReadsWrong)

/-- 'colonnadelaw04.HeadGrows': WHATEVER THE INPUT: true; the input reads as it did. -/
def headGrowsSpec : ChangeSpec := { name := "headGrows", fn := fun _ => fun
  | [d1, d2, d3, d4] => { results := [.lit (.bool true)], args := [d1, d2, d3, d4] }
  | _ => none }
def headGrowsRow : OpenClaim := { program := "ytomapklkbfjafaa", sum := "128a5ba4a769297489f5c086ee391d89571d1ca129859cec6a8a81eb1914cd36", func := "colonnade/colonnadelaw04.HeadGrows", spec := "headGrows", apart := false }
def HeadGrowsSaid : Prop := headGrowsRow.holds Try.pinned (OpenSpec.ofChange headGrowsSpec)

/-- ITS FALSE NEIGHBOUR: 'it returns false'. Refute it at one input. -/
def headGrowsWrong : ChangeSpec := { name := "headGrows", fn := fun _ => fun
  | [d1, d2, d3, d4] => { results := [.lit (.bool false)], args := [d1, d2, d3, d4] }
  | _ => none }
def HeadGrowsWrongFalsely : Prop := headGrowsRow.holds Try.pinned (OpenSpec.ofChange headGrowsWrong)

/-- 'colonnadelaw04.HeadCuts': WHATEVER THE INPUT: true; the input reads as it did. -/
def headCutsSpec : ChangeSpec := { name := "headCuts", fn := fun _ => fun
  | [d1, d2, d3] => { results := [.lit (.bool true)], args := [d1, d2, d3] }
  | _ => none }
def headCutsRow : OpenClaim := { program := "ytomapklkbfjafaa", sum := "128a5ba4a769297489f5c086ee391d89571d1ca129859cec6a8a81eb1914cd36", func := "colonnade/colonnadelaw04.HeadCuts", spec := "headCuts", apart := false }
def HeadCutsSaid : Prop := headCutsRow.holds Try.pinned (OpenSpec.ofChange headCutsSpec)

/-- ITS FALSE NEIGHBOUR: 'it returns false'. Refute it at one input. -/
def headCutsWrong : ChangeSpec := { name := "headCuts", fn := fun _ => fun
  | [d1, d2, d3] => { results := [.lit (.bool false)], args := [d1, d2, d3] }
  | _ => none }
def HeadCutsWrongFalsely : Prop := headCutsRow.holds Try.pinned (OpenSpec.ofChange headCutsWrong)

/-- 'colonnadelaw04.HeadTwo': WHATEVER THE INPUT: true; the input reads as it did. -/
def headTwoSpec : ChangeSpec := { name := "headTwo", fn := fun _ => fun
  | [d1, d2] => { results := [.lit (.bool true)], args := [d1, d2] }
  | _ => none }
def headTwoRow : OpenClaim := { program := "ytomapklkbfjafaa", sum := "128a5ba4a769297489f5c086ee391d89571d1ca129859cec6a8a81eb1914cd36", func := "colonnade/colonnadelaw04.HeadTwo", spec := "headTwo", apart := false }
def HeadTwoSaid : Prop := headTwoRow.holds Try.pinned (OpenSpec.ofChange headTwoSpec)

/-- ITS FALSE NEIGHBOUR: 'it returns false'. Refute it at one input. -/
def headTwoWrong : ChangeSpec := { name := "headTwo", fn := fun _ => fun
  | [d1, d2] => { results := [.lit (.bool false)], args := [d1, d2] }
  | _ => none }
def HeadTwoWrongFalsely : Prop := headTwoRow.holds Try.pinned (OpenSpec.ofChange headTwoWrong)

/- THE SECOND FORM. 'bulk': how many values and letters a reading holds, each counted each time it is reached (what is shared counts as often as it is met; a slice's spare places count too). A statement '..UptoSaid' is the law's where the arguments, and the package variables that the reading takes, are together of bulk at most 1048576: NARROWER than '..Said'. Prove '..Said' where nothing that the law and all that it calls make is longer than what came in: it says more and counts as full. Else prove '..UptoSaid'. A law counts once. -/
mutual
def uptoBulk {H : Type} : DataW H → Nat
  | .lit (.string bytes) => bytes.length + 1
  | .lit _ => 1
  | .nil => 1
  | .ptr d => uptoBulk d + 1
  | .slice elems spare => uptoBulkAll elems + uptoBulkAll spare + 1
  | .agg parts => uptoBulkAll parts + 1
  | .iface _ d => uptoBulk d + 1
  | .map entries => uptoBulkEntries entries + 1
  | .held _ => 1
def uptoBulkAll {H : Type} : List (DataW H) → Nat
  | [] => 0
  | d :: r => uptoBulk d + uptoBulkAll r
def uptoBulkEntries {H : Type} : List (Lit × DataW H) → Nat
  | [] => 0
  | x :: r => uptoBulkEntry x + uptoBulkEntries r
def uptoBulkEntry {H : Type} : Lit × DataW H → Nat
  | (.string bytes, d) => bytes.length + uptoBulk d + 1
  | (_, d) => uptoBulk d + 1
 end
def uptoSmall : (H : Type) → List (DataW H) → Bool := fun _ ds => decide (uptoBulkAll ds ≤ 1048576)
def OpenSpec.upto (s : _root_.Go.ChangeSpec) : _root_.Go.OpenSpec := { _root_.Go.OpenSpec.ofChange s with cond := some uptoSmall }

/-- 'colonnadelaw04.HeadReads', WHERE WHAT IT READS IS OF BULK AT MOST 1048576: true; the input reads as it did. -/
def headReadsUptoRow : OpenClaim := { program := "ytomapklkbfjafaa", sum := "128a5ba4a769297489f5c086ee391d89571d1ca129859cec6a8a81eb1914cd36", func := "colonnade/colonnadelaw04.HeadReads", spec := "headReads", apart := false, narrowed := true }
def HeadReadsUptoSaid : Prop := headReadsUptoRow.holds Try.pinned (OpenSpec.upto headReadsSpec)

/-- 'colonnadelaw04.HeadGrows', WHERE WHAT IT READS IS OF BULK AT MOST 1048576: true; the input reads as it did. -/
def headGrowsUptoRow : OpenClaim := { program := "ytomapklkbfjafaa", sum := "128a5ba4a769297489f5c086ee391d89571d1ca129859cec6a8a81eb1914cd36", func := "colonnade/colonnadelaw04.HeadGrows", spec := "headGrows", apart := false, narrowed := true }
def HeadGrowsUptoSaid : Prop := headGrowsUptoRow.holds Try.pinned (OpenSpec.upto headGrowsSpec)

/-- 'colonnadelaw04.HeadCuts', WHERE WHAT IT READS IS OF BULK AT MOST 1048576: true; the input reads as it did. -/
def headCutsUptoRow : OpenClaim := { program := "ytomapklkbfjafaa", sum := "128a5ba4a769297489f5c086ee391d89571d1ca129859cec6a8a81eb1914cd36", func := "colonnade/colonnadelaw04.HeadCuts", spec := "headCuts", apart := false, narrowed := true }
def HeadCutsUptoSaid : Prop := headCutsUptoRow.holds Try.pinned (OpenSpec.upto headCutsSpec)

/-- 'colonnadelaw04.HeadTwo', WHERE WHAT IT READS IS OF BULK AT MOST 1048576: true; the input reads as it did. -/
def headTwoUptoRow : OpenClaim := { program := "ytomapklkbfjafaa", sum := "128a5ba4a769297489f5c086ee391d89571d1ca129859cec6a8a81eb1914cd36", func := "colonnade/colonnadelaw04.HeadTwo", spec := "headTwo", apart := false, narrowed := true }
def HeadTwoUptoSaid : Prop := headTwoUptoRow.holds Try.pinned (OpenSpec.upto headTwoSpec)

end Rows
end Go.Proofs.Ytomapklkbfjafaa
