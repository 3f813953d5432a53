/-
  CreditNever: its walk, with the argument's bounds as the shell has them.
-/
import Derived.Test.YtgddlamfjjdlfaaCreditB
import Derived.Test.YtgddlamfjjdlfaaInts
namespace Go.Proofs.Ytgddlamfjjdlfaa
open Go.RowKit
theorem never_walkF (n : Int) (A : Option Addr) (c : Nat) (l : List CreditOp) (w : World) (hn : (Lit.int .u64 n).wf = true) (hr : RdT 2 CreditOpC CreditOpOk w A l) (hlc : l.length ≤ c) (hcm : c ≤ 9223372036854775807) (hA : A = none → c = 0) :
    Calls Try.prog 6 #[.int .u64 n, .slice A l.length c] w fun r w' => r = .returned (.bool true) ∧ Below w.heap.size w w' :=
  never_walk n A c l w (wf_u64 hn).1 (wf_u64 hn).2 hr hlc hcm hA
end Go.Proofs.Ytgddlamfjjdlfaa
