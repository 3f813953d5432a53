/-
  Ranges: cloned; the same. Frames: the same.
-/
import Derived.Test.YtfimngmpkckcdaaDoorOpenFrame
import Derived.Test.YtfimngmpkckcdaaDoorBytesA
import Derived.Deep.QuietTactic
import Derived.BigQuiet
namespace Go.Proofs.YtfimngmpkckcdaaDoor
open Go.RowKit
set_option linter.unusedVariables false

set_option maxHeartbeats 1600000 in
theorem sameRanges_yes (A : Option Addr) (c : Nat) (B : Option Addr) (d : Nat) (l : List (Int × Int)) (w : World) (ha : RdG w A l) (hb : RdG w B l) (hl : l.length ≤ 1000) :
    Calls Tryd.prog 15 #[.slice A l.length c, .slice B l.length d] w fun e w' => e = .returned (.bool true) ∧ ∃ q, w' = w.drewN q := by
  have HA := Lib.hid ha
  have HB := Lib.hid hb
  clear ha hb
  go_enter Tryd.func15, Tryd.ntmps15
  go_wp2
  go_loopw [13] (fun i wr => ∃ (k q : Nat), k ≤ l.length ∧ i = .int .i64 k ∧ wr = w.drewN q) (fun i _ => l.length - (intOf i).toNat)
  case atStart => exact ⟨0, 0, by omega, rfl, rfl⟩
  case round =>
    obtain ⟨k, q, hk, rfl, rfl⟩ := hrel
    by_cases hlt : k < l.length
    · obtain ⟨ba, oa, p, rfl, ha1, hx, a0, a1⟩ := HA.out.at_ hlt
      obtain ⟨bb, ob, p', rfl, hb1, hx', b0, b1⟩ := HB.out.at_ hlt
      obtain rfl : p = p' := by rw [hx] at hx'; injection hx'
      obtain ⟨x, y⟩ := p
      simp only at a0 a1 b0 b1
      clear hx hx'
      have k0 : (0 : Int) ≤ (k : Int) := by omega
      have k1 : (k : Int) < (l.length : Int) := by omega
      go_wp2
      go_quiet (fail)
      go_wp2
      go_roundw
      case rel => exact ⟨k + 1, _, by omega, by go_num, rfl⟩
      case measure => simp [intOf]; omega
    · have hd : decide (k < l.length) = false := by simpa using hlt
      go_wp2
      go_ret
      exact ⟨rfl, _, rfl⟩
end Go.Proofs.YtfimngmpkckcdaaDoor
