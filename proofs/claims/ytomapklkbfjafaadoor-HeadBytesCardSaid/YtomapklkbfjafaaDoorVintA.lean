import Derived.Test.YtomapklkbfjafaaDoorVintSpec
namespace Go.Proofs.YtomapklkbfjafaaDoor
open Go.RowKit
set_option linter.unusedVariables false

set_option maxHeartbeats 400000 in
theorem bound_any (s b : Int) (w : World) (hs : s = 1 ∧ b = 64 ∨ s = 2 ∧ b = 16384 ∨ s = 4 ∧ b = 1073741824 ∨ s = 8 ∧ b = 4611686018427387904) :
    Calls Tryd.prog 34 #[.int .i64 s] w fun e w' => e = .returned (.int .u64 b) ∧ w = w' := by
  rcases hs with ⟨rfl, rfl⟩ | ⟨rfl, rfl⟩ | ⟨rfl, rfl⟩ | ⟨rfl, rfl⟩
  all_goals
    go_enter Tryd.func34, Tryd.ntmps34
    go_wp2
    go_ret
    exact ⟨rfl, rfl⟩


set_option maxHeartbeats 400000 in
theorem refSize_any (n : Int) (w : World) (h0 : 0 ≤ n) :
    Calls Tryd.prog 30 #[.int .u64 n] w fun e w' => e = .returned (.int .i64 (vsize n)) ∧ w = w' := by
  rcases (show n < 64 ∨ 64 ≤ n ∧ n < 16384 ∨ 16384 ≤ n ∧ n < 1073741824 ∨ 1073741824 ≤ n ∧ n < 4611686018427387904 ∨ 4611686018427387904 ≤ n by omega) with h | ⟨h, h'⟩ | ⟨h, h'⟩ | ⟨h, h'⟩ | h
  all_goals
    go_enter Tryd.func30, Tryd.ntmps30
    go_wp2
    go_ret
    refine ⟨?_, rfl⟩
    unfold vsize
    repeat (first | rw [if_pos (by omega)] | rw [if_neg (by omega)])
    rfl

end Go.Proofs.YtomapklkbfjafaaDoor
