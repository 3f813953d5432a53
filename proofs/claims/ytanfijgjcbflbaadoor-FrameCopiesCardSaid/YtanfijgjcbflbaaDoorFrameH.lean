/-
  Ranges: cloned; the same. Frames: the same.
-/
import Derived.Test.YtanfijgjcbflbaaDoorOpenFrame
import Derived.Test.YtanfijgjcbflbaaDoorBytesA
import Derived.Deep.QuietTactic
import Derived.BigQuiet
namespace Go.Proofs.YtanfijgjcbflbaaDoor
open Go.RowKit
set_option linter.unusedVariables false

set_option maxHeartbeats 400000 in
theorem cloneG_any (A : Option Addr) (c : Nat) (l : List (Int × Int)) (w : World) (hr : RdG w A l) (hl : l.length ≤ 1000) (hA : A = none → l = [] ∧ c = 0) :
    Calls Tryd.prog 12 #[.slice A l.length c] w fun e w' => ∃ A' c', e = .returned (.slice A' l.length c') ∧ OwnG w' w.heap.size A' c' l ∧ Below w.heap.size w w' := by
  have qT := fun (w : World) (a : Option Addr) (n c : Nat) => Lib.run_eql_slice_nil (P := Tryd.prog) w _ _ a n c 0 0 Tryd.underlying24
  cases A with
  | none =>
    obtain ⟨rfl, rfl⟩ := hA rfl
    go_enter Tryd.func12, Tryd.ntmps12
    go_wp2
    go_ret
    exact ⟨none, 0, rfl, OwnV.nil _ _ _ _, Below.refl _ _⟩
  | some a =>
    clear hA
    go_enter Tryd.func12, Tryd.ntmps12
    go_wp2_with (at_builtin; go_must (refine wpList_appV rfl (.tmp 5) (.tmp 6) 24 31 2 16 (.agg #[.int .u64 0, .int .u64 0]) rfl Tryd.underlying24 info_range rfl (by omega) w.heap.size (n := 0) (m := l.length) (xs := []) (news := RgV l) (d := c) rfl rfl (own_g0 w (Nat.le_refl _)) (hr.alloc _) (RgV_one _) (by unfold maxLen; omega) (by omega) (by simp) ?_); intro A' c' w' hown hg hb)
    go_ret
    exact ⟨A', c', by simp, by simpa [OwnG] using hown, ((Below.refl _ _).alloc (Nat.le_refl _) _).trans hb⟩
set_option maxHeartbeats 1600000 in
theorem sameRanges_yes (A : Option Addr) (c : Nat) (B : Option Addr) (d : Nat) (l : List (Int × Int)) (w : World) (ha : RdG w A l) (hb : RdG w B l) (hl : l.length ≤ 1000) :
    Calls Tryd.prog 13 #[.slice A l.length c, .slice B l.length d] w fun e w' => e = .returned (.bool true) ∧ ∃ q, w' = w.drewN q := by
  have HA := Lib.hid ha
  have HB := Lib.hid hb
  clear ha hb
  go_enter Tryd.func13, Tryd.ntmps13
  go_wp2
  go_loopw [13] (fun i wr => ∃ (k q : Nat), k ≤ l.length ∧ i = .int .i64 k ∧ wr = w.drewN q) (fun i _ => l.length - (intOf i).toNat)
  case atStart => exact ⟨0, 0, by omega, rfl, rfl⟩
  case round =>
    obtain ⟨k, q, hk, rfl, rfl⟩ := hrel
    by_cases hlt : k < l.length
    · obtain ⟨ba, oa, p, rfl, ha1, hx, a0, a1⟩ := HA.out.at_ hlt
      obtain ⟨bb, ob, p', rfl, hb1, hx', b0, b1⟩ := HB.out.at_ hlt
      obtain rfl : p = p' := by rw [hx] at hx'; injection hx'
      obtain ⟨x, y⟩ := p
      simp only at a0 a1 b0 b1
      clear hx hx'
      have k0 : (0 : Int) ≤ (k : Int) := by omega
      have k1 : (k : Int) < (l.length : Int) := by omega
      go_wp2
      go_quiet (fail)
      go_wp2
      go_roundw
      case rel => exact ⟨k + 1, _, by omega, by go_num, rfl⟩
      case measure => simp [intOf]; omega
    · have hd : decide (k < l.length) = false := by simpa using hlt
      go_wp2
      go_ret
      exact ⟨rfl, _, rfl⟩
end Go.Proofs.YtanfijgjcbflbaaDoor
