import Derived.Test.YtpaglcojbcndoaaDoorVintSpec
namespace Go.Proofs.YtpaglcojbcndoaaDoor
open Go.RowKit
set_option linter.unusedVariables false

set_option maxHeartbeats 400000 in
theorem bound_any (s b : Int) (w : World) (hs : s = 1 ∧ b = 64 ∨ s = 2 ∧ b = 16384 ∨ s = 4 ∧ b = 1073741824 ∨ s = 8 ∧ b = 4611686018427387904) :
    Calls Tryd.prog 68 #[.int .i64 s] w fun e w' => e = .returned (.int .u64 b) ∧ w = w' := by
  rcases hs with ⟨rfl, rfl⟩ | ⟨rfl, rfl⟩ | ⟨rfl, rfl⟩ | ⟨rfl, rfl⟩
  all_goals
    go_enter Tryd.func68, Tryd.ntmps68
    go_wp2
    go_ret
    exact ⟨rfl, rfl⟩

set_option maxHeartbeats 400000 in
theorem size_any (n : Int) (w : World) (h0 : 0 ≤ n) :
    Calls Tryd.prog 61 #[.int .u64 n] w fun e w' => e = .returned (.int .i64 (vsize n)) ∧ w = w' := by
  go_enter Tryd.func61, Tryd.ntmps61
  go_wp2
  go_loop [3] (fun v => ∃ s : Int, v = .int .i64 s ∧ (s = 1 ∨ s = 2 ∧ 64 ≤ n ∨ s = 4 ∧ 16384 ≤ n ∨ s = 8 ∧ 1073741824 ≤ n ∨ s = 16 ∧ 4611686018427387904 ≤ n)) (fun v => (16 - intOf v).toNat)
  case atStart => exact ⟨1, rfl, .inl rfl⟩
  case round =>
    obtain ⟨s, rfl, hs⟩ := hrel
    rcases hs with rfl | ⟨rfl, hn⟩ | ⟨rfl, hn⟩ | ⟨rfl, hn⟩ | ⟨rfl, hn⟩
    · by_cases hlt : n < 64
      · go_wp2_with (go_at_call 68; refine (bound_any _ 64 _ (by decide)).mono ?_; rintro e w' ⟨rfl, rfl⟩)
        go_ret
        exact ⟨by simp [vsize, hlt], rfl⟩
      · go_wp2_with (go_at_call 68; refine (bound_any _ 64 _ (by decide)).mono ?_; rintro e w' ⟨rfl, rfl⟩)
        go_round
        case rel => exact ⟨2, rfl, by omega⟩
        case measure => simp [intOf]
    · by_cases hlt : n < 16384
      · go_wp2_with (go_at_call 68; refine (bound_any _ 16384 _ (by decide)).mono ?_; rintro e w' ⟨rfl, rfl⟩)
        go_ret
        exact ⟨by simp [vsize, hlt, show ¬ n < 64 by omega], rfl⟩
      · go_wp2_with (go_at_call 68; refine (bound_any _ 16384 _ (by decide)).mono ?_; rintro e w' ⟨rfl, rfl⟩)
        go_round
        case rel => exact ⟨4, rfl, by omega⟩
        case measure => simp [intOf]
    · by_cases hlt : n < 1073741824
      · go_wp2_with (go_at_call 68; refine (bound_any _ 1073741824 _ (by decide)).mono ?_; rintro e w' ⟨rfl, rfl⟩)
        go_ret
        exact ⟨by simp [vsize, hlt, show ¬ n < 64 by omega, show ¬ n < 16384 by omega], rfl⟩
      · go_wp2_with (go_at_call 68; refine (bound_any _ 1073741824 _ (by decide)).mono ?_; rintro e w' ⟨rfl, rfl⟩)
        go_round
        case rel => exact ⟨8, rfl, by omega⟩
        case measure => simp [intOf]
    · by_cases hlt : n < 4611686018427387904
      · go_wp2_with (go_at_call 68; refine (bound_any _ 4611686018427387904 _ (by decide)).mono ?_; rintro e w' ⟨rfl, rfl⟩)
        go_ret
        exact ⟨by simp [vsize, hlt, show ¬ n < 64 by omega, show ¬ n < 16384 by omega, show ¬ n < 1073741824 by omega], rfl⟩
      · go_wp2_with (go_at_call 68; refine (bound_any _ 4611686018427387904 _ (by decide)).mono ?_; rintro e w' ⟨rfl, rfl⟩)
        go_round
        case rel => exact ⟨16, rfl, by omega⟩
        case measure => simp [intOf]
    · go_wp2
      go_ret
      exact ⟨by simp [vsize, show ¬ n < 64 by omega, show ¬ n < 16384 by omega, show ¬ n < 1073741824 by omega, show ¬ n < 4611686018427387904 by omega], rfl⟩

set_option maxHeartbeats 400000 in
theorem refSize_any (n : Int) (w : World) (h0 : 0 ≤ n) :
    Calls Tryd.prog 64 #[.int .u64 n] w fun e w' => e = .returned (.int .i64 (vsize n)) ∧ w = w' := by
  rcases (show n < 64 ∨ 64 ≤ n ∧ n < 16384 ∨ 16384 ≤ n ∧ n < 1073741824 ∨ 1073741824 ≤ n ∧ n < 4611686018427387904 ∨ 4611686018427387904 ≤ n by omega) with h | ⟨h, h'⟩ | ⟨h, h'⟩ | ⟨h, h'⟩ | h
  all_goals
    go_enter Tryd.func64, Tryd.ntmps64
    go_wp2
    go_ret
    refine ⟨?_, rfl⟩
    unfold vsize
    repeat (first | rw [if_pos (by omega)] | rw [if_neg (by omega)])
    rfl

end Go.Proofs.YtpaglcojbcndoaaDoor
