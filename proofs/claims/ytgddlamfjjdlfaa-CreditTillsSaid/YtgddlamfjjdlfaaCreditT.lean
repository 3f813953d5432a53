/-
  CreditTills: a till, and a nil one.
-/
import Derived.Test.YtgddlamfjjdlfaaCreditE
import Derived.Test.YtgddlamfjjdlfaaCreditF
namespace Go.Proofs.Ytgddlamfjjdlfaa
open Go.RowKit
set_option linter.unusedVariables false
theorem tills_walk (no : Bool) (n : Int) (A : Option Addr) (c : Nat) (l : List CreditOp) (w : World) (hn0 : 0 ≤ n) (hn1 : n < 18446744073709551616) (hr : RdT 2 CreditOpC CreditOpOk w A l) (hlc : l.length ≤ c) (hcm : c ≤ 9223372036854775807) (hA : A = none → c = 0) :
    Calls Try.prog 4 #[.bool no, .int .u64 n, .slice A l.length c] w fun r w' => r = .returned (.bool true) ∧ Below w.heap.size w w' := by
  rcases no with _ | _
  · exact tills_some n A c l w hn0 hn1 hr hlc hcm hA
  · exact tills_nil n A c l w hn0 hn1 hr hlc hcm hA
end Go.Proofs.Ytgddlamfjjdlfaa
