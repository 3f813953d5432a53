/-
  CreditAgrees: its walk, with the argument's bounds as the shell has them.
-/
import Derived.Test.YtgddlamfjjdlfaaCreditH
import Derived.Test.YtgddlamfjjdlfaaInts
namespace Go.Proofs.Ytgddlamfjjdlfaa
open Go.RowKit
theorem wf_u16 {n : Int} (h : (Lit.int .u16 n).wf = true) : 0 ≤ n ∧ n < 65536 := by
  have := bounds_u16 h
  omega
theorem agrees_walkF (n : Int) (A : Option Addr) (c : Nat) (l : List CreditOp) (w : World) (hn : (Lit.int .u16 n).wf = true) (hr : RdT 2 CreditOpC CreditOpOk w A l) (hlc : l.length ≤ c) (hcm : c ≤ 9223372036854775807) (hA : A = none → c = 0) :
    Calls Try.prog 5 #[.int .u16 n, .slice A l.length c] w fun r w' => r = .returned (.bool true) ∧ Below w.heap.size w w' :=
  agrees_walk n A c l w (wf_u16 hn).1 (wf_u16 hn).2 hr hlc hcm hA
end Go.Proofs.Ytgddlamfjjdlfaa
