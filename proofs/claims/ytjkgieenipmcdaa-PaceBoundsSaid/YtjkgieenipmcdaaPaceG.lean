/-
  PaceBounds.
-/
import Derived.Test.YtjkgieenipmcdaaPaceE
import Derived.Test.YtjkgieenipmcdaaOpenPaceOp
import Derived.StillTailTactics
namespace Go.Proofs.Ytjkgieenipmcdaa
open Go.RowKit
set_option linter.unusedVariables false

set_option maxHeartbeats 3200000 in
theorem bounds_walk (A : Option Addr) (c : Nat) (l : List PaceOp) (w : World) (hr : RdT 4 PaceOpC PaceOpOk w A l) (hlc : l.length ≤ c) (hcm : c ≤ 9223372036854775807) (hA : A = none → c = 0) :
    Calls Try.prog 5 #[.slice A l.length c] w fun r w' => r = .returned (.bool true) ∧ Below w.heap.size w w' := by
  have HR := Lib.hid hr
  clear hr hA
  go_enter Try.func5, Try.ntmps5
  go_wp2_with fail
  refine (awake8_any _).mono ?_
  rintro e w1 ⟨rfl, b1⟩
  go_wp2_with fail
  refine (NewMeter_any _).mono ?_
  rintro e w2 ⟨m, rfl, j0, l1, b2⟩
  have hz := b1.size
  have bb := b1.trans (b2.mono hz)
  have hm : w.heap.size ≤ m := by omega
  have hm2 := j0.lt
  clear b1 b2
  go_wp2_with fail
  go_loopw [14] (fun i wr => ∃ (k : Nat) (M : MT), k ≤ l.length ∧ i = .int .i64 k ∧ Mtr wr m M ∧ MtOk M ∧ Below w.heap.size w wr) (fun i _ => l.length - (intOf i).toNat)
  case atStart => exact ⟨0, mt0, by omega, rfl, j0, mt0_ok, bb⟩
  case round =>
    obtain ⟨k, M, hk, rfl, j1, ok1, b1⟩ := hrel
    by_cases hlt : k < l.length
    · obtain ⟨b, off, x, rfl, hb, hx, hok, hc⟩ := (HR.out.below b1).at_ hlt
      have q0 := hc 0 (by omega)
      have q1 := hc 1 (by omega)
      have q2 := hc 2 (by omega)
      have q3 := hc 3 (by omega)
      clear hc hx
      obtain ⟨d, n, s, t⟩ := x
      obtain ⟨w0, w1, w2, w3, _⟩ := hok
      simp [PaceOpC] at q0 q1 q2 q3 w0 w1 w2 w3
      have d0 := wf_u8 w0
      have s0 := wf_u64 w2
      have t0 := wf_u64 w3
      by_cases h60 : k < 60
      · have J := Lib.hid j1
        have OK := Lib.hid ok1
        have BB := Lib.hid b1
        clear j1 ok1 b1
        rcases (show d % 4 = 0 ∨ d % 4 = 1 ∨ d % 4 = 2 ∨ d % 4 = 3 by omega) with hq | hq | hq | hq
        · have kb := Blk.new wr 44 #[.int .u8 d, .int .i64 n, .int .u64 s, .int .u64 t]
          obtain ⟨R, hR⟩ : ∃ R, R = max (M.wi - M.fl) 0 := ⟨_, rfl⟩
          obtain ⟨Z, hZ⟩ : ∃ Z, Z = min n R := ⟨_, rfl⟩
          have Z1 : (if n < R then n else R) = Z := by rw [hZ]; split <;> omega
          have Z2 : (if R < n then R else n) = Z := by rw [hZ]; split <;> omega
          have okm := OK.out
          obtain ⟨⟨p0, p1⟩, _, ⟨p2, p3⟩, _⟩ := okm
          have n0 := wf_i64 w1
          have z0 : -9223372036854775808 ≤ Z ∧ Z ≤ 1073741824 := by omega
          have zw : (Lit.int .i64 Z).wf = true := WalkArith.wf_i64 (by omega)
          have RC := fun (q : Nat) => Room_meter m M _ ((Blk.alloc J.out (.cells #[.int .u8 d, .int .i64 n, .int .u64 s, .int .u64 t] 44) : Mtr _ m M).drewN q) OK.out
          have SC := fun (q : Nat) => Send_any m M Z _ ((Blk.alloc J.out (.cells #[.int .u8 d, .int .i64 n, .int .u64 s, .int .u64 t] 44) : Mtr _ m M).drewN q) OK.out zw
          rw [← hR] at RC
          have HRC := Lib.hid RC
          have HSC := Lib.hid SC
          clear hR hZ RC SC p0 p1 p2 p3 n0 z0 zw
          go_wp2_with fail
          have k1 := kb.cell 1
          have kf1 := kb.frozen 1
          clear kb
          go_region_with (first
            | (go_at_call 25; refine (HRC.out _).mono ?_; rintro e w3 ⟨rfl, q3, rfl⟩)
            | (go_at_call 19; refine (HSC.out _).mono ?_; rintro e w4 ⟨rfl, j2, g2⟩))
          all_goals (
            obtain ⟨M2, hM⟩ : ∃ M2, M2 = (mSend M Z).1 := ⟨_, rfl⟩
            rw [← hM] at j2
            have ok2 : MtOk M2 := by rw [hM]; exact mSend_ok OK.out
            have bb2 := below_gb (below_drewN (BB.out.alloc BB.out.size (.cells #[.int .u8 d, .int .i64 n, .int .u64 s, .int .u64 t] 44)) _) g2 hm (by have := BB.out.size; simp; omega)
            clear hM g2 k1 kf1 HRC HSC Z1 Z2
            go_wp2_with fail
            refine (Told_meter m _ _ j2).mono ?_
            rintro e w5 ⟨rfl, q5, rfl⟩
            have J2 := Lib.hid j2
            have OK2 := Lib.hid ok2
            have BB2 := Lib.hid bb2
            obtain ⟨⟨p0, p1⟩, _, ⟨p2, p3⟩, _⟩ := ok2
            clear j2 bb2
            obtain ⟨R, hR⟩ : ∃ R, R = max (M2.wi - M2.fl) 0 := ⟨_, rfl⟩
            have hR0 : 0 ≤ R ∧ R ≤ M2.wi := by omega
            have RC := Room_meter m M2
            rw [← hR] at RC
            have HRC := Lib.hid RC
            clear hR RC
            generalize M2.wi = Wi at p0 p1 hR0 ⊢
            generalize M2.fl = Fl at p2 p3 ⊢
            generalize M2.th = Th
            go_wp2_with fail
            refine (HRC.out _ (J2.out.drewN _) OK2.out).mono ?_
            rintro e w6 ⟨rfl, q6, rfl⟩
            go_wp2_with fail
            refine (HRC.out _ (J2.out.drewN _) OK2.out).mono ?_
            rintro e w7 ⟨rfl, q7, rfl⟩
            go_wp2_with fail
            go_roundw
            case rel => exact ⟨k + 1, M2, by omega, by go_num, J2.out.drewN _, OK2.out, below_drewN BB2.out _⟩
            case measure => simp [intOf]; omega
          )
        · go_wp2_with fail
          refine (Acked_any m M n s _ (Blk.alloc J.out _) OK.out w1 s0.1 s0.2).mono ?_
          rintro e w3 ⟨rfl, j2, g2⟩
          clear q0 q1 q2 q3
          obtain ⟨M2, hM⟩ : ∃ M2, M2 = (mAcked M n s).1 := ⟨_, rfl⟩
          rw [← hM] at j2
          have ok2 : MtOk M2 := by rw [hM]; exact mAcked_ok OK.out
          have bb2 := below_gb (BB.out.alloc BB.out.size (.cells #[.int .u8 d, .int .i64 n, .int .u64 s, .int .u64 t] 44)) g2 hm (by have := BB.out.size; simp; omega)
          clear hM g2
          go_wp2_with fail
          refine (Told_meter m _ _ j2).mono ?_
          rintro e w5 ⟨rfl, q5, rfl⟩
          have J2 := Lib.hid j2
          have OK2 := Lib.hid ok2
          have BB2 := Lib.hid bb2
          obtain ⟨⟨p0, p1⟩, _, ⟨p2, p3⟩, _⟩ := ok2
          clear j2 bb2
          obtain ⟨R, hR⟩ : ∃ R, R = max (M2.wi - M2.fl) 0 := ⟨_, rfl⟩
          have hR0 : 0 ≤ R ∧ R ≤ M2.wi := by omega
          have RC := Room_meter m M2
          rw [← hR] at RC
          have HRC := Lib.hid RC
          clear hR RC
          generalize M2.wi = Wi at p0 p1 hR0 ⊢
          generalize M2.fl = Fl at p2 p3 ⊢
          generalize M2.th = Th
          go_wp2_with fail
          refine (HRC.out _ (J2.out.drewN _) OK2.out).mono ?_
          rintro e w6 ⟨rfl, q6, rfl⟩
          go_wp2_with fail
          refine (HRC.out _ (J2.out.drewN _) OK2.out).mono ?_
          rintro e w7 ⟨rfl, q7, rfl⟩
          go_wp2_with fail
          go_roundw
          case rel => exact ⟨k + 1, M2, by omega, by go_num, J2.out.drewN _, OK2.out, below_drewN BB2.out _⟩
          case measure => simp [intOf]; omega
        · go_wp2_with fail
          refine (MLost_any m M n s t _ (Blk.alloc J.out _) OK.out w1 s0.1 s0.2 t0.1 t0.2).mono ?_
          rintro e w3 ⟨rfl, j2, g2⟩
          clear q0 q1 q2 q3
          obtain ⟨M2, hM⟩ : ∃ M2, M2 = (mLost M n s t).1 := ⟨_, rfl⟩
          rw [← hM] at j2
          have ok2 : MtOk M2 := by rw [hM]; exact mLost_ok OK.out t0.1 t0.2
          have bb2 := below_gb (BB.out.alloc BB.out.size (.cells #[.int .u8 d, .int .i64 n, .int .u64 s, .int .u64 t] 44)) g2 hm (by have := BB.out.size; simp; omega)
          clear hM g2
          go_wp2_with fail
          refine (Told_meter m _ _ j2).mono ?_
          rintro e w5 ⟨rfl, q5, rfl⟩
          have J2 := Lib.hid j2
          have OK2 := Lib.hid ok2
          have BB2 := Lib.hid bb2
          obtain ⟨⟨p0, p1⟩, _, ⟨p2, p3⟩, _⟩ := ok2
          clear j2 bb2
          obtain ⟨R, hR⟩ : ∃ R, R = max (M2.wi - M2.fl) 0 := ⟨_, rfl⟩
          have hR0 : 0 ≤ R ∧ R ≤ M2.wi := by omega
          have RC := Room_meter m M2
          rw [← hR] at RC
          have HRC := Lib.hid RC
          clear hR RC
          generalize M2.wi = Wi at p0 p1 hR0 ⊢
          generalize M2.fl = Fl at p2 p3 ⊢
          generalize M2.th = Th
          go_wp2_with fail
          refine (HRC.out _ (J2.out.drewN _) OK2.out).mono ?_
          rintro e w6 ⟨rfl, q6, rfl⟩
          go_wp2_with fail
          refine (HRC.out _ (J2.out.drewN _) OK2.out).mono ?_
          rintro e w7 ⟨rfl, q7, rfl⟩
          go_wp2_with fail
          go_roundw
          case rel => exact ⟨k + 1, M2, by omega, by go_num, J2.out.drewN _, OK2.out, below_drewN BB2.out _⟩
          case measure => simp [intOf]; omega
        · go_wp2_with fail
          refine (Gone_any m M n _ (Blk.alloc J.out _) OK.out w1).mono ?_
          rintro e w3 ⟨rfl, j2, g2⟩
          clear q0 q1 q2 q3
          obtain ⟨M2, hM⟩ : ∃ M2, M2 = (mGone M n).1 := ⟨_, rfl⟩
          rw [← hM] at j2
          have ok2 : MtOk M2 := by rw [hM]; exact mGone_ok OK.out
          have bb2 := below_gb (BB.out.alloc BB.out.size (.cells #[.int .u8 d, .int .i64 n, .int .u64 s, .int .u64 t] 44)) g2 hm (by have := BB.out.size; simp; omega)
          clear hM g2
          go_wp2_with fail
          refine (Told_meter m _ _ j2).mono ?_
          rintro e w5 ⟨rfl, q5, rfl⟩
          have J2 := Lib.hid j2
          have OK2 := Lib.hid ok2
          have BB2 := Lib.hid bb2
          obtain ⟨⟨p0, p1⟩, _, ⟨p2, p3⟩, _⟩ := ok2
          clear j2 bb2
          obtain ⟨R, hR⟩ : ∃ R, R = max (M2.wi - M2.fl) 0 := ⟨_, rfl⟩
          have hR0 : 0 ≤ R ∧ R ≤ M2.wi := by omega
          have RC := Room_meter m M2
          rw [← hR] at RC
          have HRC := Lib.hid RC
          clear hR RC
          generalize M2.wi = Wi at p0 p1 hR0 ⊢
          generalize M2.fl = Fl at p2 p3 ⊢
          generalize M2.th = Th
          go_wp2_with fail
          refine (HRC.out _ (J2.out.drewN _) OK2.out).mono ?_
          rintro e w6 ⟨rfl, q6, rfl⟩
          go_wp2_with fail
          refine (HRC.out _ (J2.out.drewN _) OK2.out).mono ?_
          rintro e w7 ⟨rfl, q7, rfl⟩
          go_wp2_with fail
          go_roundw
          case rel => exact ⟨k + 1, M2, by omega, by go_num, J2.out.drewN _, OK2.out, below_drewN BB2.out _⟩
          case measure => simp [intOf]; omega
      · have h61 : (60 : Int) ≤ k := by omega
        go_wp2_with fail
        go_ret
        exact ⟨rfl, b1.alloc b1.size _⟩
    · have hd : decide (k < l.length) = false := by simpa using hlt
      go_wp2_with fail
      go_ret
      exact ⟨rfl, b1⟩
end Go.Proofs.Ytjkgieenipmcdaa
