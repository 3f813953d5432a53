/-
  FrameKinds.
-/
import Derived.Test.YthajandejhjccaaDoorFrameE
namespace Go.Proofs.YthajandejhjccaaDoor
open Go.RowKit
set_option linter.unusedVariables false
set_option linter.unusedSimpArgs false

/-- The reference names the fields of each kind, and '-' where there is no such kind. -/
theorem Shape_yes (k : Int) (w : World) (h : k = 0 ∨ k = 1 ∨ k = 2 ∨ k = 4 ∨ k = 5 ∨ k = 6 ∨ k = 7 ∨ k = 8 ∨ k = 16 ∨ k = 17 ∨ k = 18 ∨ k = 19 ∨ k = 20 ∨ k = 21 ∨ k = 22 ∨ k = 23 ∨ k = 24 ∨ k = 25 ∨ k = 26 ∨ k = 27 ∨ k = 28 ∨ k = 29 ∨ k = 30 ∨ k = 48) :
    Calls Tryd.prog 19 #[.int .u64 k] w fun r w' => ∃ s : ByteArray, r = .returned (.string s) ∧ ¬ s.toList = [45] ∧ (s.toList == [45]) = false ∧ w = w' := by
  rcases h with rfl | rfl | rfl | rfl | rfl | rfl | rfl | rfl | rfl | rfl | rfl | rfl | rfl | rfl | rfl | rfl | rfl | rfl | rfl | rfl | rfl | rfl | rfl | rfl
  all_goals
    go_enter Tryd.func19, Tryd.ntmps19
    go_wp2_with fail
    go_ret
    exact ⟨_, rfl, by rw [Lib.toList_data]; decide, by rw [Lib.toList_data]; decide, rfl⟩
theorem Shape_no (k : Int) (w : World) (h : NoKind k) :
    Calls Tryd.prog 19 #[.int .u64 k] w fun r w' => r = .returned (.string ⟨#[45]⟩) ∧ w = w' := by
  obtain ⟨kn, fo, q0, q1, q2, q4, q5, q6, q7, q8, q16, q17, q18, q19, q20, q21, q22, q23, q24, q25, q26, q27, q28, q29, q30, q48⟩ := h
  go_enter Tryd.func19, Tryd.ntmps19
  go_wp2_with fail
  go_ret
  exact ⟨rfl, rfl⟩
theorem lev_ways (l : Int) : (l = 0) ∨ (l = 1) ∨ (l = 2) ∨ ((l == 0) = false ∧ (l == 1) = false ∧ (l == 2) = false ∧ ¬ (l = 0 ∨ l = 1) ∧ ¬ l = 2) := by
  by_cases h0 : l = 0
  · exact .inl h0
  · by_cases h1 : l = 1
    · exact .inr (.inl h1)
    · by_cases h2 : l = 2
      · exact .inr (.inr (.inl h2))
      · exact .inr (.inr (.inr ⟨by simpa using h0, by simpa using h1, by simpa using h2, by omega, h2⟩))
set_option maxHeartbeats 1600000 in
theorem kinds_no (k l : Int) (w : World) (ht : Tab w) (h0 : 0 ≤ k) (h : NoKind k) :
    Calls Tryd.prog 5 #[.int .u64 k, .int .i64 l] w fun r w' => r = .returned (.bool true) ∧ Below w.heap.size w w' := by
  have CW := Lib.hid (awake5_any w ht)
  have CS := Lib.hid (fun W => Shape_no k W h)
  have CA := (fun W => Asks_any k W)
  have CF := (fun W => Fits_any k l W)
  have e1 : asB k = false := by rw [asB, h.kn]; rfl
  have e2 : ftB k l = false := by
    rw [ftB, h.kn, h.q0, h.q1, h.q2, h.q6, h.q28]
    split
    · rfl
    · split <;> rfl
  rw [e2] at CF
  rw [e1] at CA
  have q6 := h.q6
  have q28 := h.q28
  have hk2 : ¬ k ≤ 2 := by
    have a0 := h.q0
    have a1 := h.q1
    have a2 := h.q2
    rw [beq_eq_false_iff_ne] at a0 a1 a2
    omega
  have hk3 : decide (k ≤ 2) = false := by simpa using hk2
  have CA' := Lib.hid CA
  have CF' := Lib.hid CF
  clear CA CF e1 e2 ht h
  rcases lev_ways l with rfl | rfl | rfl | ⟨l0, l1, l2, l01, l22⟩
  case' inr.inr.inr => clear l01 l22
  all_goals
    go_enter Tryd.func5, Tryd.ntmps5
    go_wp2_with fail
    refine CW.out.mono ?_
    rintro r w1 ⟨rfl, b1⟩
    have B1 := Lib.hid b1
    clear b1
    go_wp2_with fail
    refine (CS.out _).mono ?_
    rintro r w2 ⟨rfl, rfl⟩
    go_wp2_with fail
    refine (CA'.out _).mono ?_
    rintro r w2 ⟨rfl, rfl⟩
    go_wp2_with fail
    refine (CF'.out _).mono ?_
    rintro r w2 ⟨rfl, rfl⟩
    go_wp2_with fail
    go_ret
    exact ⟨rfl, B1.out⟩
end Go.Proofs.YthajandejhjccaaDoor
