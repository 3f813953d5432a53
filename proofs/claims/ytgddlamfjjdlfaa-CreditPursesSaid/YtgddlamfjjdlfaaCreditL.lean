/-
  CreditPurses: a nil purse, too.
-/
import Derived.Test.YtgddlamfjjdlfaaCreditK
namespace Go.Proofs.Ytgddlamfjjdlfaa
open Go.RowKit
set_option linter.unusedVariables false
theorem PSpend_nilq (n : Int) (w : World) : Calls Try.prog 13 #[.pointer none, .int .u64 n] w fun r w' => r = .returned (.int .i64 6) ∧ ∃ k, w' = w.drewN k := (PSpend_nil n w).mono fun r w' h => ⟨h.1, 0, h.2.symm⟩
theorem rSpend_nilq (n : Int) (w : World) : Calls Try.prog 14 #[.pointer none, .int .u64 n] w fun r w' => r = .returned (.int .i64 6) ∧ ∃ k, w' = w.drewN k := (rSpend_nil n w).mono fun r w' h => ⟨h.1, 0, h.2.symm⟩
set_option maxRecDepth 100000 in
set_option maxHeartbeats 1600000 in
theorem purses_nil (n : Int) (A : Option Addr) (c : Nat) (l : List CreditOp) (w : World) (hn : (Lit.int .u64 n).wf = true) (hr : RdT 2 CreditOpC CreditOpOk w A l) (hlc : l.length ≤ c) (hcm : c ≤ 9223372036854775807) (hA : A = none → c = 0) :
    Calls Try.prog 3 #[.bool true, .int .u64 n, .slice A l.length c] w fun r w' => r = .returned (.bool true) ∧ Below w.heap.size w w' := by
  have HR := Lib.hid hr
  clear hr hA
  obtain ⟨hn0, hn1⟩ := wf_u64 hn
  have hNP := fun W => NewPurse_any n W hn0
  generalize puN n = P0 at *
  go_enter Try.func3, Try.ntmps3
  go_wp2_with fail
  refine (awake11_any _).mono ?_
  rintro e w1 ⟨rfl, b1⟩
  go_wp2_with fail
  refine (hNP _).mono ?_
  rintro e w2 ⟨g, rfl, p0, l1, b2⟩
  have hz := b1.size
  have bb := b1.trans (b2.mono hz)
  clear b1 b2 hNP p0
  go_wp2_with fail
  have bb := (bb.alloc bb.size (.cells #[.int .u64 n] 22)).alloc (by have := bb.size; simp; omega) (.cells #[.slice (some ⟨w2.heap.size, 0, none⟩) 1 1, .slice none 0 0] 30)
  go_loopw [25] (fun i wr => ∃ (k : Nat), k ≤ l.length ∧ i = .int .i64 k ∧ Below w.heap.size w wr) (fun i _ => l.length - (intOf i).toNat)
  case atStart => exact ⟨0, by omega, rfl, bb⟩
  case round =>
    obtain ⟨k, hk, rfl, b1⟩ := hrel
    by_cases hlt : k < l.length
    · obtain ⟨b, off, y, rfl, hb, hy, hok, hc⟩ := (HR.out.below b1).at_ hlt
      have q0 := hc 0 (by omega)
      have q1 := hc 1 (by omega)
      clear hc hy
      obtain ⟨d, y⟩ := y
      obtain ⟨w0, w1, _⟩ := hok
      simp [CreditOpC] at q0 q1 w0 w1
      have d0 := wf_u8 w0
      have x0 := wf_u64 w1
      by_cases h60 : k < 40
      · obtain ⟨W, hW⟩ : ∃ W, W = wr.alloc (.cells #[.int .u8 d, .int .u64 y] 32) := ⟨_, rfl⟩
        have B2 : Below w.heap.size w W := by rw [hW]; exact b1.alloc b1.size _
        have KB : Blk W wr.heap.size 32 #[.int .u8 d, .int .u64 y] := by rw [hW]; exact Blk.new wr _ _
        have k0 := KB.cell 0
        have k1 := KB.cell 1
        simp at k0 k1
        have BB := Lib.hid B2
        clear b1 bb B2 KB
        rcases (show d % 3 = 0 ∨ (d % 3 = 1 ∨ d % 3 = 2) by omega) with hq | hq
        · go_wp2_with fail
          rw [← hW]
          clear hW
          go_wp2_with fail
          refine (Grant_nil y _ x0.1).mono ?_
          rintro e w7 ⟨rfl, rfl⟩
          go_wp2_with fail
          refine (PTold_nil _).mono ?_
          rintro e w7 ⟨rfl, rfl⟩
          go_wp2_with fail
          refine (rLimit_nil _).mono ?_
          rintro e w7 ⟨rfl, rfl⟩
          go_wp2_with fail
          refine (rSpent_nil _).mono ?_
          rintro e w7 ⟨rfl, rfl⟩
          go_wp2_with fail
          refine (PLeft_nil _).mono ?_
          rintro e w7 ⟨rfl, rfl⟩
          go_wp2_with fail
          go_roundw
          case rel => exact ⟨k + 1, by omega, by go_num, BB.out⟩
          case measure => simp [intOf]; omega
        · rcases hq with hq | hq
          all_goals (
            go_wp2_with fail
            rw [← hW]
            clear hW
            go_wp2_with fail
            go_quiet ((first | (go_at_call 13; exact Calls.quiet_of (PSpend_nilq y _)) | (go_at_call 14; exact Calls.quiet_of (rSpend_nilq y _))))
            go_wp2_with fail
            refine (PTold_nil _).mono ?_
            rintro e w7 ⟨rfl, rfl⟩
            go_wp2_with fail
            refine (rLimit_nil _).mono ?_
            rintro e w7 ⟨rfl, rfl⟩
            go_wp2_with fail
            refine (rSpent_nil _).mono ?_
            rintro e w7 ⟨rfl, rfl⟩
            go_wp2_with fail
            refine (PLeft_nil _).mono ?_
            rintro e w7 ⟨rfl, rfl⟩
            go_wp2_with fail
            go_roundw
            case rel => exact ⟨k + 1, by omega, by go_num, below_drewN BB.out _⟩
            case measure => simp [intOf]; omega)
      · have h61 : (40 : Int) ≤ k := by omega
        go_wp2_with fail
        go_ret
        exact ⟨rfl, b1.alloc b1.size _⟩
    · have hd : decide (k < l.length) = false := by simpa using hlt
      go_wp2_with fail
      go_ret
      exact ⟨rfl, b1⟩
theorem purses_walk (no : Bool) (n : Int) (A : Option Addr) (c : Nat) (l : List CreditOp) (w : World) (hn : (Lit.int .u64 n).wf = true) (hr : RdT 2 CreditOpC CreditOpOk w A l) (hlc : l.length ≤ c) (hcm : c ≤ 9223372036854775807) (hA : A = none → c = 0) :
    Calls Try.prog 3 #[.bool no, .int .u64 n, .slice A l.length c] w fun r w' => r = .returned (.bool true) ∧ Below w.heap.size w w' := by
  rcases no with _ | _
  · exact purses_some n A c l w hn hr hlc hcm hA
  · exact purses_nil n A c l w hn hr hlc hcm hA
end Go.Proofs.Ytgddlamfjjdlfaa
