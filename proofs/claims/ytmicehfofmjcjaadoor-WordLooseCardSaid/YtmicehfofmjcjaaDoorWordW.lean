/-
  Pure: a MaxRequest whose number stands in any form, as word.Read's model reads it.
-/
import Derived.Test.YtmicehfofmjcjaaDoorWordK
import Derived.Test.YtmicehfofmjcjaaDoorWordO
namespace Go.Proofs.YtmicehfofmjcjaaDoor
open Go.RowKit
set_option linter.unusedVariables false
set_option linter.unusedSimpArgs false
def reqM (n : Int) : MV := ⟨21, 0, 0, [], 0, 0, 0, 0, 0, 0, false, 0, [], n, 0, []⟩
theorem req_run (n : Int) {k : Nat} {b t : Int} (hs : IsSize k k b t) (h0 : 0 ≤ n) (hn : n < b) (more : List Int) : runF 4096 13 (mv0 21) (wenc n k ++ more) = some (reqM n, more) := by
  have hk : 1 ≤ k := by unfold IsSize at hs; omega
  have hp : pnum (wenc n k ++ more) = some (n, more) := by
    unfold pnum
    rw [rdS_wenc hs h0 hn more, if_neg (by omega), rdN_wenc hs h0 hn more, drop_wenc hs more]
  have h : ∀ j, j ≤ 12 → runF 4096 j (mv0 21) (wenc n k ++ more) = some (mv0 21, wenc n k ++ more) := by
    intro j
    induction j with
    | zero => intro _; rfl
    | succ j ih =>
      intro hj
      have hb : hasB 4096 j = false := by
        rcases (show j = 0 ∨ j = 1 ∨ j = 2 ∨ j = 3 ∨ j = 4 ∨ j = 5 ∨ j = 6 ∨ j = 7 ∨ j = 8 ∨ j = 9 ∨ j = 10 ∨ j = 11 by omega) with rfl | rfl | rfl | rfl | rfl | rfl | rfl | rfl | rfl | rfl | rfl | rfl <;> decide
      unfold runF
      rw [ih (by omega)]
      simp only [hb]
      rfl
  show runF 4096 (12 + 1) _ _ = _
  unfold runF
  rw [h 12 (by omega)]
  simp only [show hasB 4096 12 = true by decide, if_true]
  show (pnum (wenc n k ++ more)).map _ = _
  rw [hp]
  rfl
theorem req_valid (n : Int) (h0 : 0 ≤ n) (hn : n < 4611686018427387904) : validB (reqM n) = true := by
  unfold validB reqM
  have h1 : encW ⟨21, 0, 0, [], 0, 0, 0, 0, 0, 0, false, 0, [], n, 0, []⟩ = true := by
    unfold encW
    simp
    omega
  rw [h1]
  have h2 : setW ⟨21, 0, 0, [], 0, 0, 0, 0, 0, 0, false, 0, [], n, 0, []⟩ = orW (n != 0) 0 4096 := by
    unfold setW
    simp [orW]
  rw [h2]
  have h3 : ∀ c : Bool, decide (bits .andNot .u16 (orW c 0 4096) (foW 21) = 0) = true := by decide +kernel
  have h4 : fitB ⟨21, 0, 0, [], 0, 0, 0, 0, 0, 0, false, 0, [], n, 0, []⟩ = true := by unfold fitB; simp
  rw [h4, show knW (MV.mk 21 0 0 [] 0 0 0 0 0 0 false 0 [] n 0 []).kind = true from (by decide : knW 21 = true)]
  simp only [Bool.true_and, Bool.and_true]
  exact h3 _
theorem req_read (n : Int) {k : Nat} {b t : Int} (hs : IsSize k k b t) (h0 : 0 ≤ n) (hn : n < b) (more : List Int) (q : List Int) (hq : q = wenc n k ++ more) (hl : q.length ≤ 255) :
    readW ([21, 0, (q.length : Int)] ++ q) = if more = [] then .ok (reqM n, []) else .error 4 := by
  have hn62 : n < 4611686018427387904 := by unfold IsSize at hs; omega
  have hp : pnum ([21, 0, (q.length : Int)] ++ q) = some (21, 0 :: (q.length : Int) :: q) := by
    unfold pnum
    have h1 : rdS (21 :: 0 :: (q.length : Int) :: q) = 1 := by
      simp [rdS, vlen]
    have h2 : rdN (21 :: 0 :: (q.length : Int) :: q) = 21 := by
      simp [rdN, vlen, vfold]
    show (if rdS (21 :: 0 :: (q.length : Int) :: q) = 0 then none else some (rdN (21 :: 0 :: (q.length : Int) :: q), (21 :: 0 :: (q.length : Int) :: q).drop (rdS (21 :: 0 :: (q.length : Int) :: q)))) = _
    rw [h1, h2]
    rfl
  unfold readW
  rw [hp]
  have hk : knW 21 = true := by decide
  have hN : (256 * 0 + (q.length : Int)).toNat = q.length := by omega
  simp only [hk, if_true, hN]
  rw [if_neg (by omega), List.take_length, List.drop_length]
  have hpw : parseW 21 q = if more = [] then some (reqM n) else none := by
    unfold parseW
    rw [show foW 21 = 4096 by decide, hq, req_run n hs h0 hn more]
    simp only [req_valid n h0 hn62, Bool.and_true]
    cases more <;> simp
  rw [hpw]
  by_cases hm : more = []
  · simp [hm]
  · simp [hm]
end Go.Proofs.YtmicehfofmjcjaaDoor
