import Derived.Test.YtomapklkbfjafaaVintSpec
namespace Go.Proofs.Ytomapklkbfjafaa
open Go.RowKit
set_option linter.unusedVariables false



set_option maxHeartbeats 400000 in
theorem refSize_any (n : Int) (w : World) (h0 : 0 ≤ n) :
    Calls Try.prog 32 #[.int .u64 n] w fun e w' => e = .returned (.int .i64 (vsize n)) ∧ w = w' := by
  rcases (show n < 64 ∨ 64 ≤ n ∧ n < 16384 ∨ 16384 ≤ n ∧ n < 1073741824 ∨ 1073741824 ≤ n ∧ n < 4611686018427387904 ∨ 4611686018427387904 ≤ n by omega) with h | ⟨h, h'⟩ | ⟨h, h'⟩ | ⟨h, h'⟩ | h
  all_goals
    go_enter Try.func32, Try.ntmps32
    go_wp2
    go_ret
    refine ⟨?_, rfl⟩
    unfold vsize
    repeat (first | rw [if_pos (by omega)] | rw [if_neg (by omega)])
    rfl

end Go.Proofs.Ytomapklkbfjafaa
