import Derived.Test.YtomapklkbfjafaaDoorVintG
namespace Go.Proofs.YtomapklkbfjafaaDoor
open Go.RowKit
set_option linter.unusedVariables false

theorem vlen_ways (x : Int) (h0 : 0 ≤ x) (h1 : x < 256) : x / 64 = 0 ∧ vlen x = 1 ∨ x / 64 = 1 ∧ vlen x = 2 ∨ x / 64 = 2 ∧ vlen x = 4 ∨ x / 64 = 3 ∧ vlen x = 8 := by
  unfold vlen
  (repeat' split) <;> omega

theorem vlen_ways' (x z : Int) (s : Nat) (h0 : 0 ≤ x) (h1 : x < 256) (hs : s = vlen x) (hz : z = s) : x / 64 = 0 ∧ s = 1 ∧ z = 1 ∨ x / 64 = 1 ∧ s = 2 ∧ z = 2 ∨ x / 64 = 2 ∧ s = 4 ∧ z = 4 ∨ x / 64 = 3 ∧ s = 8 ∧ z = 8 := by
  have := vlen_ways x h0 h1
  omega
end Go.Proofs.YtomapklkbfjafaaDoor
