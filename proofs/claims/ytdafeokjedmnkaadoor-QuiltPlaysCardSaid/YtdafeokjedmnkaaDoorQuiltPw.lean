/-
  QuiltPlays, for every input.
-/
import Derived.Test.YtdafeokjedmnkaaDoorQuiltZ
namespace Go.Proofs.YtdafeokjedmnkaaDoor
open Go.RowKit Go.Maps
set_option linter.unusedVariables false
theorem plays_walk (e : Bool) (A : Option Addr) (c : Nat) (l : List QuiltOp) (w : World) (ht : TabT w)
    (hr : RdT 5 QuiltOpC (QuiltOpOk w) w A l) (hlc : l.length ≤ c) (hcm : c ≤ 9223372036854775807) (hA : A = none → c = 0) :
    Calls Tryd.prog 3 #[.bool e, .slice A l.length c] w fun r w' => r = .returned (.bool true) ∧ Below w.heap.size w w' := by
  rcases e with _ | _
  · exact plays_some A c l w ht hr hlc hcm hA
  · exact plays_nil A c l w ht hr hlc hcm hA
end Go.Proofs.YtdafeokjedmnkaaDoor
