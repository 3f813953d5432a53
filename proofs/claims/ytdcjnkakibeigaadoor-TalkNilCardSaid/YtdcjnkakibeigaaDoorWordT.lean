/-
  Has and the reference's Less and Has (made by mkWordT.py).
-/
import Derived.Test.YtdcjnkakibeigaaDoorWordS
import Derived.Test.YtdcjnkakibeigaaDoorWordE
namespace Go.Proofs.YtdcjnkakibeigaaDoor
open Go.RowKit
set_option linter.unusedVariables false
set_option linter.unusedSimpArgs false
theorem refLessW_any (a b c d : Int) (w : World) : Calls Tryd.prog 27 #[.agg #[.int .u64 a, .int .u64 b], .agg #[.int .u64 c, .int .u64 d]] w fun r w' => r = .returned (.bool (lessB a b c d)) ∧ Below w.heap.size w w' := by
  by_cases h : a = c
  · subst h
    have h2 : lessB a b a d = decide (b < d) := if_pos rfl
    rw [h2]
    have h3 : (a != a) = false := by simp
    go_enter Tryd.func27, Tryd.ntmps27
    go_wp2_with fail
    go_ret
    exact ⟨rfl, ((Below.refl _ _).alloc (Nat.le_refl _) _).alloc (by simp) _⟩
  · have h2 : lessB a b c d = decide (a < c) := if_neg h
    rw [h2]
    have h3 : (a != c) = true := by simpa using h
    go_enter Tryd.func27, Tryd.ntmps27
    go_wp2_with fail
    go_ret
    exact ⟨rfl, ((Below.refl _ _).alloc (Nat.le_refl _) _).alloc (by simp) _⟩
def hasM (m : MV) (a b : Int) : Bool := if lessB a b m.sg m.so then false else if m.kind = 3 then (decide (m.eg = 0) || decide (a ≤ m.eg)) else if m.kind = 22 then !lessB m.eg m.eo a b else false
end Go.Proofs.YtdcjnkakibeigaaDoor
