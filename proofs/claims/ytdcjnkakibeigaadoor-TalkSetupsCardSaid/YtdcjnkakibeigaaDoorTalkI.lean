/-
  talk: slices.Contains of numbers.
-/
import Derived.Test.YtdcjnkakibeigaaDoorTalkA
import Derived.Test.YtdcjnkakibeigaaDoorWordO
namespace Go.Proofs.YtdcjnkakibeigaaDoor
open Go.RowKit
set_option linter.unusedVariables false
set_option linter.unusedSimpArgs false
theorem indexU_any (A : Option Addr) (c : Nat) (l : List Int) (x : Int) (w : World) (hr : RdI .u64 w A l) (hl : l.length ≤ 1000000) :
    Calls Tryd.prog 62 #[.slice A l.length c, .int .u64 x] w fun r w' => (∃ i : Int, r = .returned (.int .i64 i) ∧ decide (0 ≤ i) = decide (x ∈ l)) ∧ w = w' := by
  have HR := Lib.hid hr
  clear hr
  go_enter Tryd.func62, Tryd.ntmps62
  go_wp2_with fail
  go_loopw [8] (fun iv wr => ∃ (k : Nat), iv = .int .i64 k ∧ k ≤ l.length ∧ wr = w ∧ Hid (∀ (j : Nat) (y : Int), j < k → l[j]? = some y → x ≠ y)) (fun iv _ => l.length - (intOf iv).toNat)
  case atStart => exact ⟨0, rfl, by omega, by first | rfl | trivial, Lib.hid (fun j y h => by omega)⟩
  case round =>
    obtain ⟨k, rfl, hk, rfl, HI⟩ := hrel
    by_cases hlt : k < l.length
    · obtain ⟨bk, off, y, rfl, hb, hy, hc⟩ := HR.out.at_ hlt
      by_cases hm : x = y
      · subst hm
        have hx : x ∈ l := List.mem_of_getElem? hy
        have HX := Lib.hid hx
        have hxx : (x == x) = true := by simp
        clear hy HI hx
        go_wp2_with fail
        go_ret
        exact ⟨⟨k, rfl, by rw [decide_eq_true HX.out]; simp⟩, rfl⟩
      · have HI2 := Lib.hid (show ∀ (j : Nat) (z : Int), j < k + 1 → l[j]? = some z → x ≠ z from fun j z hj hz => by
          rcases Nat.lt_or_ge j k with h | h
          · exact HI.out j z h hz
          · have : j = k := by omega
            subst this
            rw [hy] at hz
            injection hz with hz
            rw [← hz]; exact hm)
        have hg : (x == y) = false := by simpa using hm
        clear hy HI hm
        go_wp2_with fail
        go_roundw
        case rel => exact ⟨k + 1, by go_num, by omega, by first | rfl | trivial, HI2⟩
        case measure => simp [intOf]; omega
    · have hkl : k = l.length := by omega
      subst hkl
      have HX := Lib.hid (show decide (x ∈ l) = false from by
        rw [decide_eq_false_iff_not]
        intro hx
        obtain ⟨j, hj⟩ := List.getElem?_of_mem hx
        have hj2 : j < l.length := by
          rcases Nat.lt_or_ge j l.length with h | h
          · exact h
          · rw [List.getElem?_eq_none h] at hj; cases hj
        exact HI.out j x hj2 hj rfl)
      clear HI
      go_wp2_with fail
      go_ret
      exact ⟨⟨-1, rfl, by rw [HX.out]; rfl⟩, rfl⟩
theorem containsU_any (A : Option Addr) (c : Nat) (l : List Int) (x : Int) (w : World) (hr : RdI .u64 w A l) (hl : l.length ≤ 1000000) :
    Calls Tryd.prog 55 #[.slice A l.length c, .int .u64 x] w fun r w' => r = .returned (.bool (decide (x ∈ l))) ∧ w = w' := by
  have C := Lib.hid (indexU_any A c l x w hr hl)
  go_enter Tryd.func55, Tryd.ntmps55
  go_wp2_with fail
  refine C.out.mono ?_
  rintro e w1 ⟨⟨i, rfl, hi⟩, rfl⟩
  have HI := Lib.hid hi
  clear hi
  go_wp2_with fail
  go_ret
  exact ⟨by rw [← HI.out]; simp, rfl⟩
end Go.Proofs.YtdcjnkakibeigaaDoor
