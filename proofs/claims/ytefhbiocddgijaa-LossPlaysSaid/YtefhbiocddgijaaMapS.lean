/-
  A set of numbers: map[uint64]bool, where all that is stored is true.
-/
import Derived.Test.YtefhbiocddgijaaInts
import Derived.Test.YtefhbiocddgijaaOpenT
import Derived.Maps.OwnSet
import Derived.Maps.OwnOps
namespace Go.Proofs.Ytefhbiocddgijaa
open Go.RowKit Go.Maps
set_option linter.unusedVariables false
set_option linter.unusedSimpArgs false
theorem keyedU : Keyed Try.prog 28 := int_keyed Try.underlying28
theorem keyU {x : Int} (hx : (Lit.int .u64 x).wf = true) : keyOf Try.prog 28 (.int .u64 x) = some (.int .u64 x) := keyOf_int_mk Try.underlying28 hx
theorem wfU {x : Int} (h0 : 0 ≤ x) (h1 : x < 18446744073709551616) : (Lit.int .u64 x).wf = true := WalkArith.wf_u64 (by omega)
end Go.Proofs.Ytefhbiocddgijaa
