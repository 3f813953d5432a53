/-
  PaceMeters.
-/
import Derived.Test.YtjkgieenipmcdaaPaceL
import Derived.Test.YtjkgieenipmcdaaOpenPaceOp
import Derived.Deep.QuietTactic
import Derived.BigQuiet
namespace Go.Proofs.Ytjkgieenipmcdaa
open Go.RowKit
set_option linter.unusedVariables false

set_option maxRecDepth 100000 in
set_option maxHeartbeats 3200000 in
theorem meters_nil (A : Option Addr) (c : Nat) (l : List PaceOp) (w : World) (hr : RdT 4 PaceOpC PaceOpOk w A l) (hlc : l.length ≤ c) (hcm : c ≤ 9223372036854775807) (hA : A = none → c = 0) :
    Calls Try.prog 4 #[.bool true, .slice A l.length c] w fun r w' => r = .returned (.bool true) ∧ Below w.heap.size w w' := by
  have HR := Lib.hid hr
  clear hr hA
  go_enter Try.func4, Try.ntmps4
  go_wp2_with fail
  refine (awake8_any _).mono ?_
  rintro e w1 ⟨rfl, b1⟩
  go_wp2_with fail
  refine (NewMeter_any _).mono ?_
  rintro e w2 ⟨g, rfl, j0, l1, b2⟩
  have hz := b1.size
  have bb := b1.trans (b2.mono hz)
  have hz2 := b2.size
  have hm : w.heap.size ≤ g := by omega
  have hm2 := j0.lt
  clear b1 b2
  go_wp2_with fail
  refine (rNew_any _).mono ?_
  rintro e w3 ⟨x, rfl, r0, l2, b3⟩
  have j0 := j0.below b3 hm2
  have hgx : g ≠ x := by omega
  have hx : w.heap.size ≤ x := by omega
  have bb := bb.trans (b3.mono (by omega))
  clear b3
  go_wp2_with fail
  go_loopw [20] (fun i wr => ∃ (k : Nat), k ≤ l.length ∧ i = .int .i64 k ∧ Below w.heap.size w wr) (fun i _ => l.length - (intOf i).toNat)
  case atStart => exact ⟨0, by omega, rfl, bb⟩
  case round =>
    obtain ⟨k, hk, rfl, b1⟩ := hrel
    by_cases hlt : k < l.length
    · obtain ⟨b, off, y, rfl, hb, hy, hok, hc⟩ := (HR.out.below b1).at_ hlt
      have q0 := hc 0 (by omega)
      have q1 := hc 1 (by omega)
      have q2 := hc 2 (by omega)
      have q3 := hc 3 (by omega)
      clear hc hy
      obtain ⟨d, n, s, t⟩ := y
      obtain ⟨w0, w1, w2, w3, _⟩ := hok
      simp [PaceOpC] at q0 q1 q2 q3 w0 w1 w2 w3
      have d0 := wf_u8 w0
      have s0 := wf_u64 w2
      have t0 := wf_u64 w3
      by_cases h60 : k < 60
      · rcases (show d % 4 = 0 ∨ d % 4 = 1 ∨ d % 4 = 2 ∨ d % 4 = 3 by omega) with hq | hq | hq | hq
        all_goals (
          go_wp2_with (first | (go_at_call 19; refine (Send_nil _ _).mono ?_; rintro e w' ⟨rfl, rfl⟩) | (go_at_call 20; refine (Acked_nil _ _ _).mono ?_; rintro e w' ⟨rfl, rfl⟩) | (go_at_call 21; refine (MLost_nil _ _ _ _).mono ?_; rintro e w' ⟨rfl, rfl⟩) | (go_at_call 22; refine (Gone_nil _ _).mono ?_; rintro e w' ⟨rfl, rfl⟩) | (go_at_call 23; refine (rDo_nil _ _ _ _ _).mono ?_; rintro e w' ⟨rfl, rfl⟩) | (go_at_call 24; refine (MTold_nil _).mono ?_; rintro e w' ⟨rfl, rfl⟩) | (go_at_call 25; refine (Room_nil _).mono ?_; rintro e w' ⟨rfl, rfl⟩))
          go_roundw
          case rel => exact ⟨k + 1, by omega, by go_num, b1.alloc b1.size _⟩
          case measure => simp [intOf]; omega)
      · have h61 : (60 : Int) ≤ k := by omega
        go_wp2_with fail
        go_ret
        exact ⟨rfl, b1.alloc b1.size _⟩
    · have hd : decide (k < l.length) = false := by simpa using hlt
      go_wp2_with fail
      go_ret
      exact ⟨rfl, b1⟩
end Go.Proofs.Ytjkgieenipmcdaa
