/-
  CreditTills, with a nil till too.
-/
import Derived.Test.YtgddlamfjjdlfaaCreditD
namespace Go.Proofs.Ytgddlamfjjdlfaa
open Go.RowKit
set_option linter.unusedVariables false
theorem Below.drewN' {B : Nat} {a w : World} (h : Below B a w) (k : Nat) : Below B a (w.drewN k) := below_drewN h k
theorem Came_nilq (n : Int) (w : World) : Calls Try.prog 19 #[.pointer none, .int .u64 n] w fun r w' => r = .returned (.int .i64 6) ∧ ∃ k, w' = w.drewN k := (Came_nil n w).mono fun r w' h => ⟨h.1, 0, h.2.symm⟩
theorem rCame_nilq (n : Int) (w : World) : Calls Try.prog 20 #[.pointer none, .int .u64 n] w fun r w' => r = .returned (.int .i64 6) ∧ ∃ k, w' = w.drewN k := (rCame_nil n w).mono fun r w' h => ⟨h.1, 0, h.2.symm⟩
theorem Took_nilq (n : Int) (w : World) : Calls Try.prog 21 #[.pointer none, .int .u64 n] w fun r w' => r = .returned (.int .i64 6) ∧ ∃ k, w' = w.drewN k := Took_nil n w
theorem rTook_nilq (n : Int) (w : World) : Calls Try.prog 22 #[.pointer none, .int .u64 n] w fun r w' => r = .returned (.int .i64 6) ∧ ∃ k, w' = w.drewN k := rTook_nil n w
set_option maxRecDepth 100000 in
set_option maxHeartbeats 1600000 in
theorem tills_nil (n : Int) (A : Option Addr) (c : Nat) (l : List CreditOp) (w : World) (hn0 : 0 ≤ n) (hn1 : n < 18446744073709551616) (hr : RdT 2 CreditOpC CreditOpOk w A l) (hlc : l.length ≤ c) (hcm : c ≤ 9223372036854775807) (hA : A = none → c = 0) :
    Calls Try.prog 4 #[.bool true, .int .u64 n, .slice A l.length c] w fun r w' => r = .returned (.bool true) ∧ Below w.heap.size w w' := by
  have HR := Lib.hid hr
  clear hr hA
  have HT := fun W => Top_any n W hn0
  have hNP := fun W => NewTill_any n W hn0
  generalize tlN n = T0 at *
  generalize topN n = L0 at *
  have HHT := Lib.hid HT
  clear HT
  go_enter Try.func4, Try.ntmps4
  go_wp2_with fail
  refine (awake11_any _).mono ?_
  rintro e w1 ⟨rfl, b1⟩
  go_wp2_with fail
  refine (hNP _).mono ?_
  rintro e w2 ⟨g, rfl, j0, l1, b2⟩
  have hz := b1.size
  have bb := b1.trans (b2.mono hz)
  clear b1 b2 j0
  go_wp2_with fail
  refine (HHT.out _).mono ?_
  rintro e w3 ⟨rfl, rfl⟩
  go_wp2_with fail
  refine (HHT.out _).mono ?_
  rintro e w3 ⟨rfl, rfl⟩
  clear hNP HHT
  go_wp2_with fail
  have bb := bb.alloc bb.size (.cells #[.int .u64 L0, .int .u64 L0, .int .u64 0, .int .u64 0] 47)
  go_loopw [32] (fun i wr => ∃ (k : Nat), k ≤ l.length ∧ i = .int .i64 k ∧ Below w.heap.size w wr) (fun i _ => l.length - (intOf i).toNat)
  case atStart => exact ⟨0, by omega, rfl, bb⟩
  case round =>
    obtain ⟨k, hk, rfl, b1⟩ := hrel
    by_cases hlt : k < l.length
    · obtain ⟨b, off, y, rfl, hb, hy, hok, hc⟩ := (HR.out.below b1).at_ hlt
      have q0 := hc 0 (by omega)
      have q1 := hc 1 (by omega)
      clear hc hy
      obtain ⟨d, y⟩ := y
      obtain ⟨w0, w1, _⟩ := hok
      simp [CreditOpC] at q0 q1 w0 w1
      have d0 := wf_u8 w0
      have x0 := wf_u64 w1
      by_cases h60 : k < 40
      · obtain ⟨W, hW⟩ : ∃ W, W = wr.alloc (.cells #[.int .u8 d, .int .u64 y] 32) := ⟨_, rfl⟩
        have B2 : Below w.heap.size w W := by rw [hW]; exact b1.alloc b1.size _
        have KB : Blk W wr.heap.size 32 #[.int .u8 d, .int .u64 y] := by rw [hW]; exact Blk.new wr _ _
        have k0 := KB.cell 0
        have k1 := KB.cell 1
        simp at k0 k1
        have BB := Lib.hid B2
        clear b1 bb B2 KB
        rcases (show d % 3 = 0 ∨ d % 3 = 1 ∨ d % 3 = 2 by omega) with hq | hq | hq
        · go_wp2_with fail
          rw [← hW]
          clear hW
          go_wp2_with fail
          go_quiet ((first | (go_at_call 19; exact Calls.quiet_of (Came_nilq y _)) | (go_at_call 20; exact Calls.quiet_of (rCame_nilq y _))))
          go_wp2_with fail
          refine (TTold_nil _).mono ?_
          rintro e w7 ⟨rfl, rfl⟩
          go_wp2_with fail
          go_roundw
          case rel => exact ⟨k + 1, by omega, by go_num, below_drewN BB.out _⟩
          case measure => simp [intOf]; omega
        · go_wp2_with fail
          rw [← hW]
          clear hW
          go_wp2_with fail
          go_quiet ((first | (go_at_call 21; exact Calls.quiet_of (Took_nilq y _)) | (go_at_call 22; exact Calls.quiet_of (rTook_nilq y _))))
          go_wp2_with fail
          refine (TTold_nil _).mono ?_
          rintro e w7 ⟨rfl, rfl⟩
          go_wp2_with fail
          go_roundw
          case rel => exact ⟨k + 1, by omega, by go_num, below_drewN BB.out _⟩
          case measure => simp [intOf]; omega
        · go_wp2_with fail
          rw [← hW]
          clear hW
          go_wp2_with fail
          refine (News_nil _).mono ?_
          rintro e w5 ⟨rfl, rfl⟩
          go_wp2_with fail
          refine (rNews_nil _).mono ?_
          rintro e w6 ⟨rfl, rfl⟩
          go_wp2_with fail
          refine (TTold_nil _).mono ?_
          rintro e w7 ⟨rfl, rfl⟩
          go_wp2_with fail
          go_roundw
          case rel => exact ⟨k + 1, by omega, by go_num, BB.out⟩
          case measure => simp [intOf]; omega
      · have h61 : (40 : Int) ≤ k := by omega
        go_wp2_with fail
        go_ret
        exact ⟨rfl, b1.alloc b1.size _⟩
    · have hd : decide (k < l.length) = false := by simpa using hlt
      go_wp2_with fail
      go_ret
      exact ⟨rfl, b1⟩
end Go.Proofs.Ytgddlamfjjdlfaa
