/-
  Frames: the fields of a kind; what a kind asks, and where it fits.
-/
import Derived.Test.YtfimngmpkckcdaaDoorBytesA
import Derived.Test.YtfimngmpkckcdaaDoorOpen
namespace Go.Proofs.YtfimngmpkckcdaaDoor
open Go.RowKit
set_option linter.unusedVariables false
set_option linter.unusedSimpArgs false

def kinds : List Int := [0, 1, 2, 4, 5, 6, 7, 8, 16, 17, 18, 19, 20, 21, 22, 23, 24, 25, 26, 27, 28, 29, 30, 48]
def knB (k : Int) : Bool := kinds.contains k
def foI (k : Int) : Int :=
  if k = 1 ∨ k = 30 then 0 else if k = 0 ∨ k = 16 ∨ k = 20 ∨ k = 18 ∨ k = 19 ∨ k = 22 ∨ k = 23 then 8 else if k = 2 then 136 else if k = 4 then 7 else if k = 5 then 3 else if k = 6 then 36
  else if k = 7 ∨ k = 26 ∨ k = 27 ∨ k = 48 then 32 else if k = 8 then 53 else if k = 17 ∨ k = 21 then 9 else if k = 24 then 101 else if k = 25 then 1 else if k = 28 then 42 else if k = 29 then 34 else 0
structure NoKind (k : Int) : Prop where
  kn : knB k = false
  fo : foI k = 0
  q0 : (k == 0) = false
  q1 : (k == 1) = false
  q2 : (k == 2) = false
  q4 : (k == 4) = false
  q5 : (k == 5) = false
  q6 : (k == 6) = false
  q7 : (k == 7) = false
  q8 : (k == 8) = false
  q16 : (k == 16) = false
  q17 : (k == 17) = false
  q18 : (k == 18) = false
  q19 : (k == 19) = false
  q20 : (k == 20) = false
  q21 : (k == 21) = false
  q22 : (k == 22) = false
  q23 : (k == 23) = false
  q24 : (k == 24) = false
  q25 : (k == 25) = false
  q26 : (k == 26) = false
  q27 : (k == 27) = false
  q28 : (k == 28) = false
  q29 : (k == 29) = false
  q30 : (k == 30) = false
  q48 : (k == 48) = false
theorem kind_ways (k : Int) : (k = 0 ∨ k = 1 ∨ k = 2 ∨ k = 4 ∨ k = 5 ∨ k = 6 ∨ k = 7 ∨ k = 8 ∨ k = 16 ∨ k = 17 ∨ k = 18 ∨ k = 19 ∨ k = 20 ∨ k = 21 ∨ k = 22 ∨ k = 23 ∨ k = 24 ∨ k = 25 ∨ k = 26 ∨ k = 27 ∨ k = 28 ∨ k = 29 ∨ k = 30 ∨ k = 48) ∨ NoKind k := by
  by_cases h : k ∈ kinds
  · left
    simpa [kinds] using h
  · right
    have h' : ¬ (k = 0 ∨ k = 1 ∨ k = 2 ∨ k = 4 ∨ k = 5 ∨ k = 6 ∨ k = 7 ∨ k = 8 ∨ k = 16 ∨ k = 17 ∨ k = 18 ∨ k = 19 ∨ k = 20 ∨ k = 21 ∨ k = 22 ∨ k = 23 ∨ k = 24 ∨ k = 25 ∨ k = 26 ∨ k = 27 ∨ k = 28 ∨ k = 29 ∨ k = 30 ∨ k = 48) := by simpa [kinds] using h
    have kn : knB k = false := by unfold knB; simpa using h
    have fo : foI k = 0 := by
      unfold foI
      repeat rw [if_neg (by omega)]
    constructor
    · exact kn
    · exact fo
    all_goals (rw [beq_eq_false_iff_ne]; omega)

set_option maxHeartbeats 1600000 in
theorem fieldsOf_any (k : Int) (w : World) : Calls Tryd.prog 30 #[.int .u64 k] w fun r w' => r = .returned (.tuple #[.int .u8 (foI k), .bool (knB k)]) ∧ w = w' := by
  rcases kind_ways k with h | h
  · rcases h with rfl | rfl | rfl | rfl | rfl | rfl | rfl | rfl | rfl | rfl | rfl | rfl | rfl | rfl | rfl | rfl | rfl | rfl | rfl | rfl | rfl | rfl | rfl | rfl
    all_goals
      go_enter Tryd.func30, Tryd.ntmps30
      go_wp2_with fail
      go_ret2
      exact ⟨rfl, rfl⟩
  · obtain ⟨kn, fo, q0, q1, q2, q4, q5, q6, q7, q8, q16, q17, q18, q19, q20, q21, q22, q23, q24, q25, q26, q27, q28, q29, q30, q48⟩ := h
    rw [kn, fo]
    go_enter Tryd.func30, Tryd.ntmps30
    go_wp2_with fail
    go_ret2
    exact ⟨rfl, rfl⟩
end Go.Proofs.YtfimngmpkckcdaaDoor
