/-
  PaceMeters.
-/
import Derived.Test.YtjkgieenipmcdaaPaceM
import Derived.Test.YtjkgieenipmcdaaOpenPaceOp
import Derived.Deep.QuietTactic
import Derived.BigQuiet
namespace Go.Proofs.Ytjkgieenipmcdaa
open Go.RowKit
set_option linter.unusedVariables false

set_option maxRecDepth 100000 in
set_option maxHeartbeats 3200000 in
theorem meters_some (A : Option Addr) (c : Nat) (l : List PaceOp) (w : World) (hr : RdT 4 PaceOpC PaceOpOk w A l) (hlc : l.length ≤ c) (hcm : c ≤ 9223372036854775807) (hA : A = none → c = 0) :
    Calls Try.prog 4 #[.bool false, .slice A l.length c] w fun r w' => r = .returned (.bool true) ∧ Below w.heap.size w w' := by
  have HR := Lib.hid hr
  clear hr hA
  go_enter Try.func4, Try.ntmps4
  go_wp2_with fail
  refine (awake8_any _).mono ?_
  rintro e w1 ⟨rfl, b1⟩
  go_wp2_with fail
  refine (NewMeter_any _).mono ?_
  rintro e w2 ⟨g, rfl, j0, l1, b2⟩
  have hz := b1.size
  have bb := b1.trans (b2.mono hz)
  have hz2 := b2.size
  have hm : w.heap.size ≤ g := by omega
  have hm2 := j0.lt
  clear b1 b2
  go_wp2_with fail
  refine (rNew_any _).mono ?_
  rintro e w3 ⟨x, rfl, r0, l2, b3⟩
  have j0 := j0.below b3 hm2
  have hgx : g ≠ x := by omega
  have hx : w.heap.size ≤ x := by omega
  have bb := bb.trans (b3.mono (by omega))
  clear b3
  go_wp2_with fail
  go_loopw [20] (fun i wr => ∃ (k : Nat) (M : MT), k ≤ l.length ∧ i = .int .i64 k ∧ Mtr wr g M ∧ RMt wr x M ∧ MtOk M ∧ Below w.heap.size w wr) (fun i _ => l.length - (intOf i).toNat)
  case atStart => exact ⟨0, mt0, by omega, rfl, j0, r0, mt0_ok, bb⟩
  case round =>
    obtain ⟨k, M, hk, rfl, j1, r1, ok1, b1⟩ := hrel
    have hgs := j1.lt
    have hxs := r1.lt
    by_cases hlt : k < l.length
    · obtain ⟨b, off, y, rfl, hb, hy, hok, hc⟩ := (HR.out.below b1).at_ hlt
      have q0 := hc 0 (by omega)
      have q1 := hc 1 (by omega)
      have q2 := hc 2 (by omega)
      have q3 := hc 3 (by omega)
      clear hc hy
      obtain ⟨d, n, s, t⟩ := y
      obtain ⟨w0, w1, w2, w3, _⟩ := hok
      simp [PaceOpC] at q0 q1 q2 q3 w0 w1 w2 w3
      have d0 := wf_u8 w0
      have s0 := wf_u64 w2
      have t0 := wf_u64 w3
      by_cases h60 : k < 60
      · have J := Lib.hid j1
        have RR := Lib.hid r1
        have OK := Lib.hid ok1
        have BB := Lib.hid b1
        clear j1 r1 ok1 b1 j0 r0 bb
        rcases (show d % 4 = 0 ∨ d % 4 = 1 ∨ d % 4 = 2 ∨ d % 4 = 3 by omega) with hq | hq | hq | hq
        · have SC := Send_any g M n _ (Blk.alloc J.out (.cells #[.int .u8 d, .int .i64 n, .int .u64 s, .int .u64 t] 44)) OK.out w1
          rw [show mSend M n = mDo M 0 n s t by simp [mDo]] at SC
          have DC := fun W h => rDo_any x M 0 n s t W h OK.out (by omega) t0.1 t0.2
          have ok2 : MtOk (mDo M 0 n s t).1 := mDo_ok OK.out t0.1 t0.2
          unfold DoPost at DC
          generalize (mDo M 0 n s t).2 = E at SC DC
          generalize (mDo M 0 n s t).1 = M2 at SC DC ok2
          have HSC := Lib.hid SC
          have HDC := Lib.hid DC
          clear SC DC
          go_wp2_with fail
          refine HSC.out.mono ?_
          rintro e w4 ⟨rfl, j2, g2⟩
          have KB := (Blk.new wr 44 #[.int .u8 d, .int .i64 n, .int .u64 s, .int .u64 t]).grown g2 (by intro h; injection h; omega)
          have r2 := rmt_gb (Blk.alloc RR.out _) g2 (Ne.symm hgx)
          have bb2 := below_gb (BB.out.alloc BB.out.size (.cells #[.int .u8 d, .int .i64 n, .int .u64 s, .int .u64 t] 44)) g2 hm (by have := BB.out.size; simp; omega)
          clear q0 q1 q2 q3 g2
          have q0 := KB.cell 0
          have q1 := KB.cell 1
          have q2 := KB.cell 2
          have q3 := KB.cell 3
          have f0 := KB.frozen 0
          have z4 := KB.lt
          have J2 := Lib.hid j2
          have R2 := Lib.hid r2
          have BB2 := Lib.hid bb2
          clear KB j2 r2 bb2
          simp at q0 q1 q2 q3
          go_wp2_with fail
          refine (HDC.out _ R2.out).mono ?_
          rintro e w5 ⟨rfl, r3, g3⟩
          have j3 := mtr_gb J2.out g3 hgx
          have bb3 := below_gb BB2.out g3 hx (by have := BB2.out.size; omega)
          clear q0 q1 q2 q3 f0 g3 HSC HDC J2 R2 BB2
          go_wp2_with fail
          refine (Told_meter g M2 _ j3).mono ?_
          rintro e w6 ⟨rfl, k6, hw6⟩
          have j3 : Mtr w6 g M2 := by rw [hw6]; exact j3.drewN _
          have r3 : RMt w6 x M2 := by rw [hw6]; exact r3.drewN _
          have bb3 : Below w.heap.size w w6 := by rw [hw6]; exact below_drewN bb3 _
          clear hw6
          have J3 := Lib.hid j3
          have R3 := Lib.hid r3
          have BB3 := Lib.hid bb3
          have OK2 := Lib.hid ok2
          obtain ⟨⟨p0, p1⟩, _, ⟨p2, p3⟩, _⟩ := ok2
          have c0 := r3.c0
          have c1 := r3.c1
          have c2 := r3.c2
          obtain ⟨R, hR⟩ : ∃ R, R = max (M2.wi - M2.fl) 0 := ⟨_, rfl⟩
          have RC := fun W h => Room_meter g M2 W h OK2.out
          rw [← hR] at RC
          have HRC := Lib.hid RC
          clear RC j3 r3 bb3
          generalize M2.wi = Wi at p0 p1 c0 hR ⊢
          generalize M2.fl = Fl at p2 p3 c2 hR ⊢
          generalize M2.th = Th at c1 ⊢
          have R4 : (if 0 < Wi - Fl then Wi - Fl else 0) = R := by rw [hR]; split <;> omega
          have R5 : (if Wi - Fl < 0 then 0 else Wi - Fl) = R := by rw [hR]; split <;> omega
          have R6 : max 0 (Wi - Fl) = R := by omega
          have R7 : IntKind.i64.wrap (Wi - Fl) = Wi - Fl := IntWalk.i64_in _ (by omega)
          clear hR
          go_wp2_with fail
          go_quiet ((go_at_call 25; exact Calls.quiet_of (HRC.out _ (J3.out.drewN _))))
          go_wp2_with fail
          go_roundw
          case rel => exact ⟨k + 1, M2, by omega, by go_num, J3.out.drewN _, R3.out.drewN _, OK2.out, below_drewN BB3.out _⟩
          case measure => simp [intOf]; omega
        · have SC := Acked_any g M n s _ (Blk.alloc J.out (.cells #[.int .u8 d, .int .i64 n, .int .u64 s, .int .u64 t] 44)) OK.out w1 s0.1 s0.2
          rw [show mAcked M n s = mDo M 1 n s t by simp [mDo]] at SC
          have DC := fun W h => rDo_any x M 1 n s t W h OK.out (by omega) t0.1 t0.2
          have ok2 : MtOk (mDo M 1 n s t).1 := mDo_ok OK.out t0.1 t0.2
          unfold DoPost at DC
          generalize (mDo M 1 n s t).2 = E at SC DC
          generalize (mDo M 1 n s t).1 = M2 at SC DC ok2
          have HSC := Lib.hid SC
          have HDC := Lib.hid DC
          clear SC DC
          go_wp2_with fail
          refine HSC.out.mono ?_
          rintro e w4 ⟨rfl, j2, g2⟩
          have KB := (Blk.new wr 44 #[.int .u8 d, .int .i64 n, .int .u64 s, .int .u64 t]).grown g2 (by intro h; injection h; omega)
          have r2 := rmt_gb (Blk.alloc RR.out _) g2 (Ne.symm hgx)
          have bb2 := below_gb (BB.out.alloc BB.out.size (.cells #[.int .u8 d, .int .i64 n, .int .u64 s, .int .u64 t] 44)) g2 hm (by have := BB.out.size; simp; omega)
          clear q0 q1 q2 q3 g2
          have q0 := KB.cell 0
          have q1 := KB.cell 1
          have q2 := KB.cell 2
          have q3 := KB.cell 3
          have f0 := KB.frozen 0
          have z4 := KB.lt
          have J2 := Lib.hid j2
          have R2 := Lib.hid r2
          have BB2 := Lib.hid bb2
          clear KB j2 r2 bb2
          simp at q0 q1 q2 q3
          go_wp2_with fail
          refine (HDC.out _ R2.out).mono ?_
          rintro e w5 ⟨rfl, r3, g3⟩
          have j3 := mtr_gb J2.out g3 hgx
          have bb3 := below_gb BB2.out g3 hx (by have := BB2.out.size; omega)
          clear q0 q1 q2 q3 f0 g3 HSC HDC J2 R2 BB2
          go_wp2_with fail
          refine (Told_meter g M2 _ j3).mono ?_
          rintro e w6 ⟨rfl, k6, hw6⟩
          have j3 : Mtr w6 g M2 := by rw [hw6]; exact j3.drewN _
          have r3 : RMt w6 x M2 := by rw [hw6]; exact r3.drewN _
          have bb3 : Below w.heap.size w w6 := by rw [hw6]; exact below_drewN bb3 _
          clear hw6
          have J3 := Lib.hid j3
          have R3 := Lib.hid r3
          have BB3 := Lib.hid bb3
          have OK2 := Lib.hid ok2
          obtain ⟨⟨p0, p1⟩, _, ⟨p2, p3⟩, _⟩ := ok2
          have c0 := r3.c0
          have c1 := r3.c1
          have c2 := r3.c2
          obtain ⟨R, hR⟩ : ∃ R, R = max (M2.wi - M2.fl) 0 := ⟨_, rfl⟩
          have RC := fun W h => Room_meter g M2 W h OK2.out
          rw [← hR] at RC
          have HRC := Lib.hid RC
          clear RC j3 r3 bb3
          generalize M2.wi = Wi at p0 p1 c0 hR ⊢
          generalize M2.fl = Fl at p2 p3 c2 hR ⊢
          generalize M2.th = Th at c1 ⊢
          have R4 : (if 0 < Wi - Fl then Wi - Fl else 0) = R := by rw [hR]; split <;> omega
          have R5 : (if Wi - Fl < 0 then 0 else Wi - Fl) = R := by rw [hR]; split <;> omega
          have R6 : max 0 (Wi - Fl) = R := by omega
          have R7 : IntKind.i64.wrap (Wi - Fl) = Wi - Fl := IntWalk.i64_in _ (by omega)
          clear hR
          go_wp2_with fail
          go_quiet ((go_at_call 25; exact Calls.quiet_of (HRC.out _ (J3.out.drewN _))))
          go_wp2_with fail
          go_roundw
          case rel => exact ⟨k + 1, M2, by omega, by go_num, J3.out.drewN _, R3.out.drewN _, OK2.out, below_drewN BB3.out _⟩
          case measure => simp [intOf]; omega
        · have SC := MLost_any g M n s t _ (Blk.alloc J.out (.cells #[.int .u8 d, .int .i64 n, .int .u64 s, .int .u64 t] 44)) OK.out w1 s0.1 s0.2 t0.1 t0.2
          rw [show mLost M n s t = mDo M 2 n s t by simp [mDo]] at SC
          have DC := fun W h => rDo_any x M 2 n s t W h OK.out (by omega) t0.1 t0.2
          have ok2 : MtOk (mDo M 2 n s t).1 := mDo_ok OK.out t0.1 t0.2
          unfold DoPost at DC
          generalize (mDo M 2 n s t).2 = E at SC DC
          generalize (mDo M 2 n s t).1 = M2 at SC DC ok2
          have HSC := Lib.hid SC
          have HDC := Lib.hid DC
          clear SC DC
          go_wp2_with fail
          refine HSC.out.mono ?_
          rintro e w4 ⟨rfl, j2, g2⟩
          have KB := (Blk.new wr 44 #[.int .u8 d, .int .i64 n, .int .u64 s, .int .u64 t]).grown g2 (by intro h; injection h; omega)
          have r2 := rmt_gb (Blk.alloc RR.out _) g2 (Ne.symm hgx)
          have bb2 := below_gb (BB.out.alloc BB.out.size (.cells #[.int .u8 d, .int .i64 n, .int .u64 s, .int .u64 t] 44)) g2 hm (by have := BB.out.size; simp; omega)
          clear q0 q1 q2 q3 g2
          have q0 := KB.cell 0
          have q1 := KB.cell 1
          have q2 := KB.cell 2
          have q3 := KB.cell 3
          have f0 := KB.frozen 0
          have z4 := KB.lt
          have J2 := Lib.hid j2
          have R2 := Lib.hid r2
          have BB2 := Lib.hid bb2
          clear KB j2 r2 bb2
          simp at q0 q1 q2 q3
          go_wp2_with fail
          refine (HDC.out _ R2.out).mono ?_
          rintro e w5 ⟨rfl, r3, g3⟩
          have j3 := mtr_gb J2.out g3 hgx
          have bb3 := below_gb BB2.out g3 hx (by have := BB2.out.size; omega)
          clear q0 q1 q2 q3 f0 g3 HSC HDC J2 R2 BB2
          go_wp2_with fail
          refine (Told_meter g M2 _ j3).mono ?_
          rintro e w6 ⟨rfl, k6, hw6⟩
          have j3 : Mtr w6 g M2 := by rw [hw6]; exact j3.drewN _
          have r3 : RMt w6 x M2 := by rw [hw6]; exact r3.drewN _
          have bb3 : Below w.heap.size w w6 := by rw [hw6]; exact below_drewN bb3 _
          clear hw6
          have J3 := Lib.hid j3
          have R3 := Lib.hid r3
          have BB3 := Lib.hid bb3
          have OK2 := Lib.hid ok2
          obtain ⟨⟨p0, p1⟩, _, ⟨p2, p3⟩, _⟩ := ok2
          have c0 := r3.c0
          have c1 := r3.c1
          have c2 := r3.c2
          obtain ⟨R, hR⟩ : ∃ R, R = max (M2.wi - M2.fl) 0 := ⟨_, rfl⟩
          have RC := fun W h => Room_meter g M2 W h OK2.out
          rw [← hR] at RC
          have HRC := Lib.hid RC
          clear RC j3 r3 bb3
          generalize M2.wi = Wi at p0 p1 c0 hR ⊢
          generalize M2.fl = Fl at p2 p3 c2 hR ⊢
          generalize M2.th = Th at c1 ⊢
          have R4 : (if 0 < Wi - Fl then Wi - Fl else 0) = R := by rw [hR]; split <;> omega
          have R5 : (if Wi - Fl < 0 then 0 else Wi - Fl) = R := by rw [hR]; split <;> omega
          have R6 : max 0 (Wi - Fl) = R := by omega
          have R7 : IntKind.i64.wrap (Wi - Fl) = Wi - Fl := IntWalk.i64_in _ (by omega)
          clear hR
          go_wp2_with fail
          go_quiet ((go_at_call 25; exact Calls.quiet_of (HRC.out _ (J3.out.drewN _))))
          go_wp2_with fail
          go_roundw
          case rel => exact ⟨k + 1, M2, by omega, by go_num, J3.out.drewN _, R3.out.drewN _, OK2.out, below_drewN BB3.out _⟩
          case measure => simp [intOf]; omega
        · have SC := Gone_any g M n _ (Blk.alloc J.out (.cells #[.int .u8 d, .int .i64 n, .int .u64 s, .int .u64 t] 44)) OK.out w1
          rw [show mGone M n = mDo M 3 n s t by simp [mDo]] at SC
          have DC := fun W h => rDo_any x M 3 n s t W h OK.out (by omega) t0.1 t0.2
          have ok2 : MtOk (mDo M 3 n s t).1 := mDo_ok OK.out t0.1 t0.2
          unfold DoPost at DC
          generalize (mDo M 3 n s t).2 = E at SC DC
          generalize (mDo M 3 n s t).1 = M2 at SC DC ok2
          have HSC := Lib.hid SC
          have HDC := Lib.hid DC
          clear SC DC
          go_wp2_with fail
          refine HSC.out.mono ?_
          rintro e w4 ⟨rfl, j2, g2⟩
          have KB := (Blk.new wr 44 #[.int .u8 d, .int .i64 n, .int .u64 s, .int .u64 t]).grown g2 (by intro h; injection h; omega)
          have r2 := rmt_gb (Blk.alloc RR.out _) g2 (Ne.symm hgx)
          have bb2 := below_gb (BB.out.alloc BB.out.size (.cells #[.int .u8 d, .int .i64 n, .int .u64 s, .int .u64 t] 44)) g2 hm (by have := BB.out.size; simp; omega)
          clear q0 q1 q2 q3 g2
          have q0 := KB.cell 0
          have q1 := KB.cell 1
          have q2 := KB.cell 2
          have q3 := KB.cell 3
          have f0 := KB.frozen 0
          have z4 := KB.lt
          have J2 := Lib.hid j2
          have R2 := Lib.hid r2
          have BB2 := Lib.hid bb2
          clear KB j2 r2 bb2
          simp at q0 q1 q2 q3
          go_wp2_with fail
          refine (HDC.out _ R2.out).mono ?_
          rintro e w5 ⟨rfl, r3, g3⟩
          have j3 := mtr_gb J2.out g3 hgx
          have bb3 := below_gb BB2.out g3 hx (by have := BB2.out.size; omega)
          clear q0 q1 q2 q3 f0 g3 HSC HDC J2 R2 BB2
          go_wp2_with fail
          refine (Told_meter g M2 _ j3).mono ?_
          rintro e w6 ⟨rfl, k6, hw6⟩
          have j3 : Mtr w6 g M2 := by rw [hw6]; exact j3.drewN _
          have r3 : RMt w6 x M2 := by rw [hw6]; exact r3.drewN _
          have bb3 : Below w.heap.size w w6 := by rw [hw6]; exact below_drewN bb3 _
          clear hw6
          have J3 := Lib.hid j3
          have R3 := Lib.hid r3
          have BB3 := Lib.hid bb3
          have OK2 := Lib.hid ok2
          obtain ⟨⟨p0, p1⟩, _, ⟨p2, p3⟩, _⟩ := ok2
          have c0 := r3.c0
          have c1 := r3.c1
          have c2 := r3.c2
          obtain ⟨R, hR⟩ : ∃ R, R = max (M2.wi - M2.fl) 0 := ⟨_, rfl⟩
          have RC := fun W h => Room_meter g M2 W h OK2.out
          rw [← hR] at RC
          have HRC := Lib.hid RC
          clear RC j3 r3 bb3
          generalize M2.wi = Wi at p0 p1 c0 hR ⊢
          generalize M2.fl = Fl at p2 p3 c2 hR ⊢
          generalize M2.th = Th at c1 ⊢
          have R4 : (if 0 < Wi - Fl then Wi - Fl else 0) = R := by rw [hR]; split <;> omega
          have R5 : (if Wi - Fl < 0 then 0 else Wi - Fl) = R := by rw [hR]; split <;> omega
          have R6 : max 0 (Wi - Fl) = R := by omega
          have R7 : IntKind.i64.wrap (Wi - Fl) = Wi - Fl := IntWalk.i64_in _ (by omega)
          clear hR
          go_wp2_with fail
          go_quiet ((go_at_call 25; exact Calls.quiet_of (HRC.out _ (J3.out.drewN _))))
          go_wp2_with fail
          go_roundw
          case rel => exact ⟨k + 1, M2, by omega, by go_num, J3.out.drewN _, R3.out.drewN _, OK2.out, below_drewN BB3.out _⟩
          case measure => simp [intOf]; omega
      · have h61 : (60 : Int) ≤ k := by omega
        go_wp2_with fail
        go_ret
        exact ⟨rfl, b1.alloc b1.size _⟩
    · have hd : decide (k < l.length) = false := by simpa using hlt
      go_wp2_with fail
      go_ret
      exact ⟨rfl, b1⟩
theorem meters_walk (b : Bool) (A : Option Addr) (c : Nat) (l : List PaceOp) (w : World) (hr : RdT 4 PaceOpC PaceOpOk w A l) (hlc : l.length ≤ c) (hcm : c ≤ 9223372036854775807) (hA : A = none → c = 0) :
    Calls Try.prog 4 #[.bool b, .slice A l.length c] w fun r w' => r = .returned (.bool true) ∧ Below w.heap.size w w' := by
  rcases b with _ | _
  · exact meters_some A c l w hr hlc hcm hA
  · exact meters_nil A c l w hr hlc hcm hA
end Go.Proofs.Ytjkgieenipmcdaa
