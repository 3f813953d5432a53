/-
  QuiltEnds: no byte lies beyond the end that is known; what is refused changes nothing.
-/
import Derived.Test.YtdafeokjedmnkaaDoorQuiltN
import Derived.Test.YtdafeokjedmnkaaDoorOpenQuiltOp
namespace Go.Proofs.YtdafeokjedmnkaaDoor
open Go.RowKit Go.Maps
set_option linter.unusedVariables false
set_option linter.unusedSimpArgs false
theorem putCode_fit {s : QS} {off : Int} {len : Nat} {e : Bool} (h : putCode s off len e = 0) : off + (len : Int) ≤ 4611686018427387903 ∧ qFits s (off + len) e = true := by
  unfold putCode at h
  by_cases h1 : 4611686018427387903 < off ∨ 4611686018427387903 - off < len
  · rw [if_pos h1] at h; cases h
  · rw [if_neg h1] at h
    by_cases h2 : qFits s (off + len) e = true
    · exact ⟨by omega, h2⟩
    · rw [if_neg h2] at h; cases h
/-- However it went, at most so many places are new. -/
theorem put_T {s s' : QS} {off : Int} {p : List Int} {e : Bool} {c : Int} (h1 : c = 0 → PutTo s off p e s') (h2 : c ≠ 0 → s' = s) : s'.T.length ≤ s.T.length + p.length := by
  by_cases h : c = 0
  · rw [(h1 h).T, List.length_append]
    have := news_len s.f off p.length
    omega
  · rw [h2 h]
    omega
set_option maxHeartbeats 1600000 in
theorem ends10_walk (A : Option Addr) (c : Nat) (l : List QuiltOp) (at_ : Int) (B : Option Addr) (cb : Nat) (p : List Int) (e : Bool) (w : World) (ht : TabT w)
    (hr : RdT 5 QuiltOpC (QuiltOpOk w) w A l) (hlc : l.length ≤ c) (hcm : c ≤ 9223372036854775807) (hA : A = none → c = 0) (wa : (Lit.int .u64 at_).wf = true)
    (rb : Rd w B p) (bb : Bytes p) (lb : p.length ≤ cb) (mb : cb ≤ 9223372036854775807) (nb : B = none → cb = 0) :
    Calls Tryd.prog 5 #[.slice A l.length c, .int .u64 at_, .slice B p.length cb, .bool e] w fun r w' => r = .returned (.bool true) ∧ Below w.heap.size w w' := by
  have hgl := ht.1
  have HT := Lib.hid ht
  have HR := Lib.hid hr
  have HB := Lib.hid rb
  have AW := awake10_any w ht
  have ha := bounds_u64 wa
  obtain ⟨P, hP⟩ : ∃ P, P = p.take 60 := ⟨_, rfl⟩
  have hP6 := cut_len hP
  have hPb := Lib.hid (show Bytes P by rw [hP]; exact bytes_take bb 60)
  have CB := Lib.hid (fun W h => cut60 B cb p P hP W h lb mb)
  clear ht hr rb nb hA hP bb
  go_enter Tryd.func5, Tryd.ntmps5
  go_wp2_with fail
  refine AW.mono ?_
  rintro r w1 ⟨rfl, b1⟩
  go_wp2_with fail
  refine (QNew_any w1).mono ?_
  rintro r w2 ⟨g, rfl, q2, b2⟩
  have hz1 := b1.size
  have B2 := b1.trans (b2.mono hz1)
  have hz2 := b2.size
  have hgl1 : 0 < w1.heap.size := Nat.lt_of_lt_of_le hgl hz1
  clear b1 b2
  go_wp2_with fail
  go_loopw [23] (fun i wr => ∃ (k m : Nat) (s : QS), k ≤ l.length ∧ i = .int .i64 k ∧ m ≤ 60 * min k 30 ∧ s.T.length ≤ 60 * min k 30 ∧ Hid (Qlt wr w1.heap.size g m s) ∧ Hid (Below w.heap.size w wr) ∧ w1.heap.size ≤ wr.heap.size) (fun i _ => l.length - (intOf i).toNat)
  case atStart => exact ⟨0, 0, qs0, by omega, rfl, by omega, by decide, Lib.hid q2, Lib.hid B2, hz2⟩
  case round =>
    obtain ⟨k, m, s, hk, rfl, hm, hT, Q, BB, hz⟩ := hrel
    clear q2 B2 hz2
    by_cases hlt : k < l.length
    · obtain ⟨b, off, x, rfl, hb, hx, hok, hc⟩ := (HR.out.below BB.out).at_ hlt
      have q0 := hc 0 (by omega)
      have q1 := hc 1 (by omega)
      have q2 := hc 2 (by omega)
      have q3 := hc 3 (by omega)
      have q4 := hc 4 (by omega)
      clear hc hx
      obtain ⟨d, o, pA, pc, pp, pe, pn⟩ := x
      obtain ⟨x0, x1, ⟨x2, x3⟩, x4, _⟩ := hok
      simp [QuiltOpC] at q0 q1 q2 q3 q4 x0 x1 x2 x3 x4
      have hob := bounds_u64 x1
      by_cases h30 : k < 30
      · obtain ⟨O, hO⟩ : ∃ O, O = o % 500 := ⟨_, rfl⟩
        have hO0 : 0 ≤ O ∧ O < 500 := by omega
        have wO : IntKind.u64.wrap (o.tmod 500) = O := by rw [hO, Int.tmod_eq_emod_of_nonneg (by omega)]; exact IntWalk.u64_in _ (by omega)
        have wO3 : o.tmod 500 = O := by rw [hO, Int.tmod_eq_emod_of_nonneg (by omega)]
        have wO4 : o % 500 = O := hO.symm
        have wO2 : IntKind.u64.wrap (o % 500) = O := by rw [hO]; exact IntWalk.u64_in _ (by omega)
        obtain ⟨PP, hPP⟩ : ∃ P, P = pp.take 60 := ⟨_, rfl⟩
        have hPP6 := cut_len hPP
        have hPPb := Lib.hid (show Bytes PP by rw [hPP]; exact bytes_take x3 60)
        have CP := Lib.hid (fun W h => cut60 pA pc pp PP hPP W h x2.le x2.max)
        have RP := Lib.hid x2.rd
        clear hPP x2 x3 hO
        have HM := Lib.hid (And.intro hm hT)
        have hm2 : m ≤ 1800 := by omega
        have hT2 : s.T.length ≤ 1800 := by omega
        clear hm hT hob ha
        obtain ⟨W, hW⟩ : ∃ W, W = wr.alloc (.cells #[.int .u8 d, .int .u64 o, .slice pA pp.length pc, .bool pe, .int .i64 pn] 31) := ⟨_, rfl⟩
        obtain ⟨gx, hgx⟩ : ∃ gx, gx = wr.heap.size := ⟨_, rfl⟩
        have KW : Blk W gx 31 #[.int .u8 d, .int .u64 o, .slice pA pp.length pc, .bool pe, .int .i64 pn] := by rw [hW, hgx]; exact Blk.new wr _ _
        have QW := Lib.hid (show Qlt W w1.heap.size g m s by rw [hW]; exact Q.out.alloc _)
        have BW := Lib.hid (show Below w.heap.size w W by rw [hW]; exact BB.out.alloc BB.out.size _)
        have hzW : w1.heap.size ≤ W.heap.size := by rw [hW]; simp; omega
        have hTW := Lib.hid (HT.out.keep hgl BW.out)
        clear Q BB
        go_wp2_with fail
        rw [← hW, ← hgx]
        clear hW hgx q0 q1 q2 q3 q4
        have KW1 := Lib.hid KW.drew
        have c1 := KW1.out.cell 1
        have c2 := KW1.out.cell 2
        have c3 := KW1.out.cell 3
        simp at c1 c2 c3
        have RW1 := Lib.hid (show Rd W.drew pA pp from (RP.out.below BW.out).drew)
        clear KW
        go_region_with (first
          | (go_at_call 11; refine (CP.out _ RW1.out).mono ?_; rintro e6 w6 ⟨A6, c6, rfl, o6, b6⟩; have KW6 := KW1.out.below b6 KW1.out.lt; have c61 := KW6.cell 1; have c62 := KW6.cell 2; have c63 := KW6.cell 3; simp at c61 c62 c63; have Q6 := (QW.out.drewN 1).keep b6; have B6 := Lib.hid ((below_drewN BW.out 1).trans (b6.mono BW.out.size)); have hz6 := Nat.le_trans hzW b6.size; have P6 := Lib.hid (Put_any w1.heap.size g m s O A6 c6 PP pe w6 Q6 (src_own o6 Q6 hPPb.out) (HT.out.keep hgl B6.out) hgl1 hz6 (by omega) (WalkArith.wf_u64 (by omega)) (by omega) (by omega)); clear KW6 Q6 o6 b6)
          | (go_at_call 18; (with_reducible refine P6.out.mono ?_); rintro e7 w7 ⟨rfl, ⟨s', h1, h2, q7⟩, k7, b7⟩; have T7 := put_T h1 h2; have Q7 := Lib.hid q7; have B7 := Lib.hid (B6.out.trans (b7.mono hz1)); have hz7 := Nat.le_trans hz6 b7.size; clear h1 h2 q7 k7 b7))
        all_goals (
          go_wp2_with fail
          go_roundw
          case rel => exact ⟨k + 1, m + PP.length, s', by omega, by go_num, by have := HM.out; omega, by have := HM.out; omega, Q7, B7, hz7⟩
          case measure => simp [intOf]; omega)
      · have hd : decide ((k : Int) < 30) = false := by simp; omega
        obtain ⟨W, hW⟩ : ∃ W, W = wr.alloc (.cells #[.int .u8 d, .int .u64 o, .slice pA pp.length pc, .bool pe, .int .i64 pn] 31) := ⟨_, rfl⟩
        have QW := Lib.hid (show Qlt W w1.heap.size g m s by rw [hW]; exact Q.out.alloc _)
        have BW := Lib.hid (show Below w.heap.size w W by rw [hW]; exact BB.out.alloc BB.out.size _)
        have hzW : w1.heap.size ≤ W.heap.size := by rw [hW]; simp; omega
        have HM := Lib.hid (And.intro hm hT)
        clear Q BB x2 x3 hm hT
        go_wp2_with fail
        rw [← hW]
        go_roundw
        case rel => exact ⟨k + 1, m, s, by omega, by go_num, by have := HM.out; omega, by have := HM.out; omega, QW, BW, hzW⟩
        case measure => simp [intOf]; omega
    · obtain rfl : k = l.length := by omega
      have EE := Lib.hid (End_any w1.heap.size g m s wr Q.out)
      have EH := Lib.hid (High_any w1.heap.size g m s wr Q.out)
      have EL := Lib.hid (Held_any w1.heap.size g m s wr Q.out)
      have RP := Lib.hid (HB.out.below BB.out)
      have hm2 : m ≤ 1800 := by omega
      have hT2 : s.T.length ≤ 1800 := by omega
      clear hm hT hlt hk HR
      have CB1 := Lib.hid (CB.out wr RP.out)
      have HPUT := Lib.hid (fun (w3 : World) (A3 : Option Addr) (c3 : Nat) (o3 : Own w3 wr.heap.size A3 c3 P) (b3 : Below wr.heap.size wr w3) => Put_any w1.heap.size g m s at_ A3 c3 P e w3 (Q.out.keep b3) (src_own o3 (Q.out.keep b3) hPb.out) (HT.out.keep hgl (BB.out.trans (b3.mono BB.out.size))) hgl1 (Nat.le_trans hz b3.size) (by omega) wa (by omega) (by omega))
      have hhi := Q.out.ok.h1
      have hhi0 : 0 ≤ s.hi := by
        have h1 := Q.out.ok.r0
        have h2 := Q.out.ok.r1
        have h3 := Q.out.ok.w1
        omega
      obtain ⟨cd, hcd⟩ : ∃ cd, cd = putCode s at_ P.length e := ⟨_, rfl⟩
      rw [← hcd] at HPUT
      obtain ⟨hl, hhl⟩ : ∃ hl, hl = (s.T.length : Int) - s.rd := ⟨_, rfl⟩
      rw [← hhl] at EL
      obtain ⟨hi, hhi'⟩ : ∃ hi, hi = s.hi := ⟨_, rfl⟩
      rw [← hhi'] at EH EE hhi hhi0
      have wlp : IntKind.u64.wrap (P.length : Int) = (P.length : Int) := IntWalk.u64_in _ (by omega)
      rcases hen : s.en with _ | _
      · rw [hen] at EE
        simp only [Bool.false_eq_true, if_false] at EE
        have HS := Lib.hid hen
        have HC := Lib.hid hcd
        have HH := Lib.hid (And.intro hhl hhi')
        clear hen hcd hhl hhi'
        go_wp2_with fail
        refine EE.out.mono ?_
        rintro r w3 ⟨rfl, rfl⟩
        go_wp2_with fail
        refine EH.out.mono ?_
        rintro r w3 ⟨rfl, rfl⟩
        go_wp2_with fail
        refine EL.out.mono ?_
        rintro r w3 ⟨rfl, rfl⟩
        go_wp2_with fail
        refine CB1.out.mono ?_
        rintro r w3 ⟨A3, c3, rfl, o3, b3⟩
        have HP3 := Lib.hid (HPUT.out w3 A3 c3 o3 b3)
        have B3 := Lib.hid (BB.out.trans (b3.mono BB.out.size))
        clear HPUT o3 b3 CB1 EE EH EL
        by_cases hz0 : cd = 0
        · subst hz0
          go_wp2_with fail
          refine HP3.out.mono ?_
          rintro r w4 ⟨rfl, _, _, b4⟩
          have B4 := Lib.hid (B3.out.trans (b4.mono hz1))
          clear b4
          go_wp2_with fail
          go_ret
          exact ⟨rfl, B4.out⟩
        · have hcb : (cd == 0) = false := by rw [beq_eq_false_iff_ne]; exact hz0
          go_wp2_with fail
          refine HP3.out.mono ?_
          rintro r w4 ⟨rfl, ⟨s', _, h2, q4⟩, _, b4⟩
          obtain rfl : s' = s := h2 hz0
          have B4 := Lib.hid (B3.out.trans (b4.mono hz1))
          have EE := End_any w1.heap.size g _ s' w4 q4
          have EH := High_any w1.heap.size g _ s' w4 q4
          have EL := Held_any w1.heap.size g _ s' w4 q4
          rw [HS.out] at EE
          simp only [Bool.false_eq_true, if_false] at EE
          rw [← HH.out.1] at EL
          rw [← HH.out.2] at EH
          have EE := Lib.hid EE
          have EH := Lib.hid EH
          have EL := Lib.hid EL
          clear b4 h2 q4
          go_wp2_with fail
          refine EE.out.mono ?_
          rintro r w3 ⟨rfl, rfl⟩
          go_wp2_with fail
          refine EH.out.mono ?_
          rintro r w3 ⟨rfl, rfl⟩
          go_wp2_with fail
          refine EL.out.mono ?_
          rintro r w3 ⟨rfl, rfl⟩
          go_wp2_with fail
          go_ret
          exact ⟨rfl, B4.out⟩
      · rw [hen] at EE
        simp only [if_true] at EE
        have HS := Lib.hid hen
        have HC := Lib.hid hcd
        have HH := Lib.hid (And.intro hhl hhi')
        have RPW := Lib.hid (fun W hb => HB.out.below (w' := W) hb)
        clear hen hcd hhl hhi'
        go_wp2_with fail
        refine EE.out.mono ?_
        rintro r w3 ⟨rfl, rfl⟩
        go_wp2_with fail
        refine EH.out.mono ?_
        rintro r w3 ⟨rfl, rfl⟩
        go_wp2_with fail
        refine EL.out.mono ?_
        rintro r w3 ⟨rfl, rfl⟩
        go_wp2_with fail
        refine CB1.out.mono ?_
        rintro r w3 ⟨A3, c3, rfl, o3, b3⟩
        have HP3 := Lib.hid (HPUT.out w3 A3 c3 o3 b3)
        have B3 := Lib.hid (BB.out.trans (b3.mono BB.out.size))
        clear HPUT o3 b3 CB1 EE EH EL
        by_cases hz0 : cd = 0
        · have hfit := putCode_fit (HC.out.symm.trans hz0)
          have hto : at_ + (P.length : Int) ≤ hi := by
            have h1 := hfit.2
            unfold qFits at h1
            rw [HS.out, ← HH.out.2] at h1
            simp at h1
            omega
          have hdt : decide (at_ + (P.length : Int) ≤ hi) = true := by simpa using hto
          have wat : IntKind.u64.wrap (at_ + (P.length : Int)) = at_ + (P.length : Int) := IntWalk.u64_in _ (by omega)
          clear hfit
          subst hz0
          go_wp2_with fail
          refine HP3.out.mono ?_
          rintro r w4 ⟨rfl, _, _, b4⟩
          have B4 := Lib.hid (B3.out.trans (b4.mono hz1))
          have CB2 := Lib.hid (CB.out w4 (RPW.out w4 B4.out))
          clear b4
          go_wp2_with fail
          refine CB2.out.mono ?_
          rintro r w5 ⟨A5, c5, rfl, o5, b5⟩
          have B5 := Lib.hid (B4.out.trans (b5.mono B4.out.size))
          clear o5 b5 CB2
          go_wp2_with fail
          go_ret
          exact ⟨rfl, B5.out⟩
        · have hcb : (cd == 0) = false := by rw [beq_eq_false_iff_ne]; exact hz0
          go_wp2_with fail
          refine HP3.out.mono ?_
          rintro r w4 ⟨rfl, ⟨s', _, h2, q4⟩, _, b4⟩
          obtain rfl : s' = s := h2 hz0
          have B4 := Lib.hid (B3.out.trans (b4.mono hz1))
          have EE := End_any w1.heap.size g _ s' w4 q4
          have EH := High_any w1.heap.size g _ s' w4 q4
          have EL := Held_any w1.heap.size g _ s' w4 q4
          rw [HS.out, ← HH.out.2] at EE
          simp only [if_true] at EE
          rw [← HH.out.1] at EL
          rw [← HH.out.2] at EH
          have EE := Lib.hid EE
          have EH := Lib.hid EH
          have EL := Lib.hid EL
          clear b4 h2 q4
          go_wp2_with fail
          refine EE.out.mono ?_
          rintro r w3 ⟨rfl, rfl⟩
          go_wp2_with fail
          refine EH.out.mono ?_
          rintro r w3 ⟨rfl, rfl⟩
          go_wp2_with fail
          refine EL.out.mono ?_
          rintro r w3 ⟨rfl, rfl⟩
          go_wp2_with fail
          go_ret
          exact ⟨rfl, B4.out⟩
end Go.Proofs.YtdafeokjedmnkaaDoor
