/-
  FrameKinds.
-/
import Derived.Test.YthajandejhjccaaDoorFrameF0
import Derived.Test.YthajandejhjccaaDoorFrameF1
import Derived.Test.YthajandejhjccaaDoorFrameF2
import Derived.Test.YthajandejhjccaaDoorFrameFX
namespace Go.Proofs.YthajandejhjccaaDoor
open Go.RowKit
set_option linter.unusedVariables false

theorem u64_nn {n : Int} (h : (Lit.int .u64 n).wf = true) : 0 ≤ n := by
  simp [Lit.wf, IntKind.min, IntKind.max, IntKind.signed, IntKind.bits] at h; omega
theorem kinds_walk (k l : Int) (w : World) (ht : Tab w) (wk : (Lit.int .u64 k).wf = true) (wl : (Lit.int .i64 l).wf = true) :
    Calls Tryd.prog 5 #[.int .u64 k, .int .i64 l] w fun r w' => r = .returned (.bool true) ∧ Below w.heap.size w w' := by
  rcases kind_ways k with h | h
  · rcases lev_ways l with rfl | rfl | rfl | ⟨l0, l1, l2, l01, l22⟩
    · exact kinds_0 k w ht h
    · exact kinds_1 k w ht h
    · exact kinds_2 k w ht h
    · exact kinds_x k l l0 l1 l2 l01 l22 w ht h
  · exact kinds_no k l w ht (u64_nn wk) h
end Go.Proofs.YthajandejhjccaaDoor
