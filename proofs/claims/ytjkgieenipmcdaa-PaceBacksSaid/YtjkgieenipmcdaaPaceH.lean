/-
  PaceBacks.
-/
import Derived.Test.YtjkgieenipmcdaaPaceE
import Derived.Test.YtjkgieenipmcdaaOpenT
namespace Go.Proofs.Ytjkgieenipmcdaa
open Go.RowKit
set_option linter.unusedVariables false

theorem wf_i64s {n : Int} (h0 : 0 ≤ n) (h1 : n ≤ 1000000) : (Lit.int .i64 n).wf = true := WalkArith.wf_i64 (by omega)
set_option maxHeartbeats 1600000 in
theorem backs_walk (A : Option Addr) (c : Nat) (l : List (Int × Int)) (tr : Int) (w : World) (hr : RdT 2 PairC PairOk w A l) (hlc : l.length ≤ c) (hcm : c ≤ 9223372036854775807) (hA : A = none → c = 0) (ht : (Lit.int .u8 tr).wf = true) :
    Calls Try.prog 6 #[.slice A l.length c, .int .u8 tr] w fun r w' => r = .returned (.bool true) ∧ Below w.heap.size w w' := by
  have HR := Lib.hid hr
  obtain ⟨tr0, tr1⟩ := wf_u8 ht
  clear hr hA ht
  go_enter Try.func6, Try.ntmps6
  go_wp2_with fail
  refine (awake8_any _).mono ?_
  rintro e w1 ⟨rfl, b1⟩
  go_wp2_with fail
  refine (NewClock_any _).mono ?_
  rintro e w2 ⟨g, rfl, j0, l1, b2⟩
  have hz := b1.size
  have bb := b1.trans (b2.mono hz)
  have hm : w.heap.size ≤ g := by omega
  clear b1 b2
  go_wp2_with fail
  go_loopw [14] (fun i wr => ∃ (k : Nat) (C : CK), k ≤ l.length ∧ i = .int .i64 k ∧ Clk wr g C ∧ CkOk C ∧ Below w.heap.size w wr) (fun i _ => l.length - (intOf i).toNat)
  case atStart => exact ⟨0, ck0, by omega, rfl, j0, ck0_ok, bb⟩
  case round =>
    obtain ⟨k, C, hk, rfl, j1, ok1, b1⟩ := hrel
    by_cases hlt : k < l.length
    · obtain ⟨b, off, x, rfl, hb, hx, hok, hc⟩ := (HR.out.below b1).at_ hlt
      have q0 := hc 0 (by omega)
      have q1 := hc 1 (by omega)
      clear hc hx
      obtain ⟨x, d⟩ := x
      obtain ⟨⟨x0, x1⟩, ⟨d0, d1⟩⟩ := hok
      simp [PairC] at q0 q1 x0 x1 d0 d1
      have J := Lib.hid j1
      have OK := Lib.hid ok1
      have BB := Lib.hid b1
      clear j1 ok1 b1
      by_cases h60 : k < 60
      · go_wp2_with fail
        refine (Sample_any g C x d _ (Blk.alloc J.out _) OK.out x0 x1 d0 d1).mono ?_
        rintro e w3 ⟨rfl, j2, g2⟩
        have ok2 := @ckS_ok C x d OK.out x0 d0
        have bb2 := below_gb (BB.out.alloc BB.out.size (.cells #[.int .u64 x, .int .u64 d] 27)) g2 hm (by have := BB.out.size; simp; omega)
        clear q0 q1 g2
        go_wp2_with fail
        go_roundw
        case rel => exact ⟨k + 1, ckS C x d, by omega, by go_num, j2, ok2, bb2⟩
        case measure => simp [intOf]; omega
      · have h61 : decide (k < 60) = false := by simpa using h60
        go_wp2_with fail
        go_roundw
        case rel => exact ⟨k + 1, C, by omega, by go_num, Blk.alloc J.out _, OK.out, BB.out.alloc BB.out.size _⟩
        case measure => simp [intOf]; omega
    · have hd : decide (k < l.length) = false := by simpa using hlt
      obtain ⟨n, hn⟩ : ∃ n : Nat, tr % 20 = n := ⟨(tr % 20).toNat, by omega⟩
      have hn20 : n < 20 := by omega
      obtain ⟨a, ha⟩ : ∃ a, a = ckW C n := ⟨_, rfl⟩
      have C1 := fun W h => Wait_clock g C n W h ok1 (wf_i64s (by omega) (by omega))
      have C2 := fun W h => Wait_clock g C ((n : Int) + 1) W h ok1 (wf_i64s (by omega) (by omega))
      have C3 := fun W h => Wait_clock g C 0 W h ok1 (wf_i64s (by omega) (by omega))
      have C4 := fun W h => Lost_clock g C W h ok1
      have e2 := ckW_two C n hn20
      have a1 := ckW_ok (c := C) n ok1
      have a2 := ckW_ok (c := C) ((n : Int) + 1) ok1
      have a3 := ckW_ok (c := C) 0 ok1
      have a4 := ckL_pos C
      rw [e2, ← ha] at C2 a2
      rw [← ha] at C1 a1
      generalize ckW C 0 = a0 at C3 a3
      generalize ckL C = a5 at C4 a4
      have H1 := Lib.hid C1
      have H2 := Lib.hid C2
      have H3 := Lib.hid C3
      have H4 := Lib.hid C4
      have J := Lib.hid j1
      have a5p : 0 < a5 := by omega
      clear C1 C2 C3 C4 e2 ha j1 bb j0 a4
      obtain ⟨a6, a7⟩ := a2
      obtain ⟨a8, a9⟩ := a1
      obtain ⟨b3, b4⟩ := a3
      go_wp2_with fail
      refine (H2.out _ J.out).mono ?_
      rintro e w3 ⟨rfl, q3, rfl⟩
      go_wp2_with fail
      refine (H1.out _ (J.out.drewN _)).mono ?_
      rintro e w4 ⟨rfl, q4, rfl⟩
      go_wp2_with fail
      refine (H3.out _ (J.out.drewN _)).mono ?_
      rintro e w5 ⟨rfl, q5, rfl⟩
      go_wp2_with fail
      refine (H4.out _ (J.out.drewN _)).mono ?_
      rintro e w6 ⟨rfl, q6, rfl⟩
      go_wp2_with fail
      go_ret
      exact ⟨rfl, below_drewN b1 _⟩
end Go.Proofs.Ytjkgieenipmcdaa
