/-
  HeadGrows: a number that was cut is grown again.
-/
import Derived.Test.YtomapklkbfjafaaDoorHeadA
namespace Go.Proofs.YtomapklkbfjafaaDoor
open Go.RowKit
set_option linter.unusedVariables false

theorem mod_facts (x W : Int) (hx : 0 ≤ x) (hW : 0 < W) : 0 ≤ x % W ∧ x % W < W ∧ x % W ≤ x := by
  have e1 := Int.emod_add_mul_ediv x W
  have e2 : 0 ≤ W * (x / W) := Int.mul_nonneg (by omega) (Int.ediv_nonneg hx (by omega))
  exact ⟨Int.emod_nonneg _ (by omega), Int.emod_lt_of_pos _ (by omega), by omega⟩

/-- The size that is needed tells twice as many numbers as lie between. -/
theorem needS_some (pn a : Int) (h : a < pn) (hf : pn - a ≤ 2147483648) : ∃ W, SW (needS pn a true) W ∧ 2 * (pn - a) ≤ W := by
  unfold needS reachB
  simp only [if_true]
  have d : decide (pn ≤ a) = false := by simp; omega
  rw [d]
  simp only [Bool.false_or, decide_eq_true_eq]
  split
  · exact ⟨_, sw1, by omega⟩
  · split
    · exact ⟨_, sw2, by omega⟩
    · split
      · exact ⟨_, sw3, by omega⟩
      · exact ⟨_, sw4, by omega⟩
theorem needS_none (pn a : Int) (hf : pn < 2147483648) : ∃ W, SW (needS pn a false) W ∧ 2 * pn < W := by
  unfold needS reachB
  simp only [Bool.false_eq_true, if_false, decide_eq_true_eq]
  split
  · exact ⟨_, sw1, by omega⟩
  · split
    · exact ⟨_, sw2, by omega⟩
    · split
      · exact ⟨_, sw3, by omega⟩
      · exact ⟨_, sw4, by omega⟩

theorem mod_near (x y W q : Int) (hW : 0 < W) (e : x = y + W * q) (h0 : 0 ≤ y) (h1 : y < W) : x % W = y := by
  rw [e, Int.add_mul_emod_self_left, Int.emod_eq_of_lt h0 h1]

/-- The number that is meant is the closest one. -/
theorem growN_is (x pn W : Int) (hx : 0 ≤ x) (h1 : x ≤ pn) (h2 : 2 * (pn - x) < W) (hW : 256 ≤ W) (hW2 : W % 2 = 0) (hp : pn < 4611686018427387904) : growN x (pn % W % W) W = pn := by
  have ex := Int.emod_add_mul_ediv x W
  have ep := Int.emod_add_mul_ediv pn W
  have mx := mod_facts x W hx (by omega)
  have mp := mod_facts pn W (by omega) (by omega)
  have m2 : pn % W % W = pn % W := Int.emod_emod_of_dvd _ (Int.dvd_refl _)
  rw [m2]
  -- the quotients differ by at most one
  have hq : pn / W = x / W ∨ pn / W = x / W + 1 := by
    have g1 : x / W ≤ pn / W := Int.ediv_le_ediv (by omega) h1
    have g2 : pn / W ≤ (x + W) / W := Int.ediv_le_ediv (by omega) (by omega)
    rw [Int.add_ediv_of_dvd_right (Int.dvd_refl _), Int.ediv_self (by omega)] at g2
    omega
  unfold growN
  rw [m2]
  clear m2
  generalize pn % W = c at *
  generalize x % W = d at *
  have hx' : x - d = W * (x / W) := by omega
  have hp' : pn - c = W * (pn / W) := by omega
  rcases hq with hq | hq
  · rw [hq] at hp'
    have e : x - d + c = pn := by omega
    rw [e]
    generalize W * (x / W) = z at *
    rw [if_neg (by omega), if_neg (by omega)]
    omega
  · rw [hq, Int.mul_add, Int.mul_one] at hp'
    have e : x - d + c = pn - W := by omega
    rw [e]
    generalize W * (x / W) = z at *
    rw [if_pos (by omega)]
    omega

theorem awake4_any (w : World) : Calls Tryd.prog 4 #[] w fun e w' => e = .returned (.bool true) ∧ w = w' := by
  have e1 : needS 11295746 11266227 true = 2 := by decide +kernel
  have e2 : growN 2821665003 39730 65536 = 2821692210 := by decide +kernel
  have c1 := need_any 11295746 11266227 true w (by omega) (by omega) (by omega) (by omega)
  have c2 := grow_any 2821665002 39730 2 65536 2821665003 true w sw2 (by omega) (by omega) (by omega) (by omega) (by decide)
  rw [e1] at c1
  rw [e2] at c2
  have C1 := Lib.hid c1
  have C2 := Lib.hid c2
  clear c1 c2 e1 e2
  go_enter Tryd.func4, Tryd.ntmps4
  go_wp2_with fail
  refine C1.out.mono ?_
  rintro e w' ⟨rfl, rfl⟩
  go_wp2_with fail
  refine C2.out.mono ?_
  rintro e w' ⟨rfl, rfl⟩
  go_wp2
  go_ret
  exact ⟨rfl, rfl⟩

end Go.Proofs.YtomapklkbfjafaaDoor
