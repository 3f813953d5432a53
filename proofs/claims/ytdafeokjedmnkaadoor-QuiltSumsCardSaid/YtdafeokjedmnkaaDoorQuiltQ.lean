/-
  QuiltSums: what was read, and what waits, is what came, each byte once.
-/
import Derived.Test.YtdafeokjedmnkaaDoorQuiltN
import Derived.Test.YtdafeokjedmnkaaDoorQuiltP
import Derived.Test.YtdafeokjedmnkaaDoorOpenQuiltOp
namespace Go.Proofs.YtdafeokjedmnkaaDoor
open Go.RowKit Go.Maps
set_option linter.unusedVariables false
set_option linter.unusedSimpArgs false
theorem putCode_le {s : QS} {off : Int} {len : Nat} {e : Bool} (h : putCode s off len e = 0) : off + (len : Int) ≤ 4611686018427387903 := by
  unfold putCode at h
  by_cases h1 : 4611686018427387903 < off ∨ 4611686018427387903 - off < len
  · rw [if_pos h1] at h; cases h
  · omega
theorem putT_le {s s' : QS} {off : Int} {p : List Int} {e : Bool} (h : PutTo s off p e s') : s'.T.length ≤ s.T.length + p.length := by
  rw [h.T, List.length_append]
  have := news_len s.f off p.length
  omega
/-- The next place: it is new if it was not there. -/
theorem news_next {f : Int → Option Int} {T : List Int} (h : Came f T) (off : Int) (k : Nat) : (T ++ news f off k) ++ (if off + (k : Int) ∈ T ++ news f off k then [] else [off + (k : Int)]) = T ++ news f off (k + 1) := by
  rw [news_s, List.append_assoc]
  congr 2
  by_cases hf : f (off + k) = none
  · rw [if_pos hf, if_neg]
    rw [List.mem_append, h.mem, mem_news]
    intro h1
    rcases h1 with h1 | h1
    · exact h1 hf
    · omega
  · rw [if_neg hf, if_pos]
    rw [List.mem_append, h.mem]
    exact .inl hf
theorem cell0_new {w : World} {base g n : Nat} {s : QS} (h : Qlt w base g n s) (o : Obj) : (w.alloc o).cell? ⟨g, 0, none⟩ ≠ some (.map (some w.heap.size)) := by
  have h2 := h.alloc o
  obtain ⟨M, hq, hp⟩ := h.q
  rw [(hq.alloc o).cell 0]
  rcases hp with ⟨rfl, _⟩ | ⟨B, pt, rfl, h3⟩
  · simp [QV]
  · have := h3.map.lt
    simp [QV]
    omega
set_option maxHeartbeats 1600000 in
theorem sums_walk (A : Option Addr) (c : Nat) (l : List QuiltOp) (w : World) (ht : TabT w)
    (hr : RdT 5 QuiltOpC (QuiltOpOk w) w A l) (hlc : l.length ≤ c) (hcm : c ≤ 9223372036854775807) (hA : A = none → c = 0) :
    Calls Tryd.prog 7 #[.slice A l.length c] w fun r w' => r = .returned (.bool true) ∧ Below w.heap.size w w' := by
  have hgl := ht.1
  have HT := Lib.hid ht
  have HR := Lib.hid hr
  have AW := awake10_any w ht
  clear ht hr hA
  have hmm := @run_makeMap Tryd.prog
  go_enter Tryd.func7, Tryd.ntmps7
  go_wp2_with fail
  refine AW.mono ?_
  rintro r w1 ⟨rfl, b1⟩
  go_wp2_with fail
  refine (QNew_any w1).mono ?_
  rintro r w2 ⟨g, rfl, q2, b2⟩
  have hz1 := b1.size
  have B2 := b1.trans (b2.mono hz1)
  have hz2 := b2.size
  have hgl1 : 0 < w1.heap.size := Nat.lt_of_lt_of_le hgl hz1
  clear b1 b2
  have M3 := Lib.hid (MapB.made w2)
  have Q3 := Lib.hid (q2.alloc (.map #[] 0))
  have B3 := Lib.hid (B2.alloc (by omega) (.map #[] 0))
  have hgM : g ≠ w2.heap.size := by have := q2.lt; omega
  have N3 := Lib.hid (cell0_new q2 (.map #[] 0))
  have hz3 : w1.heap.size ≤ (w2.alloc (.map #[] 0)).heap.size := by simp; omega
  obtain ⟨BM, hBM⟩ : ∃ BM, BM = w2.heap.size := ⟨_, rfl⟩
  have hwBM : w.heap.size ≤ BM := by omega
  go_wp2_with fail
  rw [← hBM] at M3 N3 ⊢
  clear q2 B2 hgM hz2
  go_loopw [15] (fun i wr => ∃ (k m n : Nat) (s : QS), k ≤ l.length ∧ i = .int .i64 k ∧ m ≤ 60 * min k 40 ∧ n ≤ 60 * min k 40 ∧ s.T.length ≤ 60 * min k 40 ∧ Hid (Qlt wr w1.heap.size g m s) ∧ Hid (MapB wr BM n s.T) ∧ Hid (wr.cell? ⟨g, 0, none⟩ ≠ some (.map (some BM))) ∧ Hid (Below w.heap.size w wr) ∧ w1.heap.size ≤ wr.heap.size) (fun i _ => l.length - (intOf i).toNat)
  case atStart => exact ⟨0, 0, 0, qs0, by omega, rfl, by omega, by omega, by decide, Q3, M3, N3, B3, hz3⟩
  case round =>
    obtain ⟨k, m, n, s, hk, rfl, hm, hn, hT, Q, MB, NE, BB, hz⟩ := hrel
    clear Q3 M3 N3 B3 hz3 hBM
    by_cases hlt : k < l.length
    · obtain ⟨b, off, x, rfl, hb, hx, hok, hc⟩ := (HR.out.below BB.out).at_ hlt
      have q0 := hc 0 (by omega)
      have q1 := hc 1 (by omega)
      have q2 := hc 2 (by omega)
      have q3 := hc 3 (by omega)
      have q4 := hc 4 (by omega)
      clear hc hx
      obtain ⟨d, o, pA, pc, pp, pe, pn⟩ := x
      obtain ⟨x0, x1, ⟨x2, x3⟩, x4, _⟩ := hok
      simp [QuiltOpC] at q0 q1 q2 q3 q4 x0 x1 x2 x3 x4
      have hob := bounds_u64 x1
      have hd0 := u8_range' x0
      by_cases h40 : k < 40
      · have hd : decide (40 ≤ (k : Int)) = false := by simp; omega
        obtain ⟨O, hO⟩ : ∃ O, O = o % 300 := ⟨_, rfl⟩
        have hO0 : 0 ≤ O ∧ O < 300 := by omega
        have wO3 : o.tmod 300 = O := by rw [hO, Int.tmod_eq_emod_of_nonneg (by omega)]
        have wO4 : o % 300 = O := hO.symm
        have wO2 : IntKind.u64.wrap O = O := IntWalk.u64_in _ (by omega)
        obtain ⟨PP, hPP⟩ : ∃ P, P = pp.take 60 := ⟨_, rfl⟩
        have hPP6 := cut_len hPP
        have hPPb := Lib.hid (show Bytes PP by rw [hPP]; exact bytes_take x3 60)
        have CP := Lib.hid (fun W h => cut60 pA pc pp PP hPP W h x2.le x2.max)
        have RP := Lib.hid x2.rd
        have HM := Lib.hid (And.intro hm (And.intro hn hT))
        have hm2 : m ≤ 2400 := by omega
        have hn2 : n ≤ 2400 := by omega
        have hT2 : s.T.length ≤ 2400 := by omega
        clear hPP x2 x3 hO hob hm hn hT
        obtain ⟨W, hW⟩ : ∃ W, W = wr.alloc (.cells #[.int .u8 d, .int .u64 O, .slice pA pp.length pc, .bool pe, .int .i64 pn] 31) := ⟨_, rfl⟩
        obtain ⟨gx, hgx⟩ : ∃ gx, gx = wr.heap.size := ⟨_, rfl⟩
        have KW : Blk W gx 31 #[.int .u8 d, .int .u64 O, .slice pA pp.length pc, .bool pe, .int .i64 pn] := by rw [hW, hgx]; exact Blk.new wr _ _
        have QW := Lib.hid (show Qlt W w1.heap.size g m s by rw [hW]; exact Q.out.alloc _)
        have MW := Lib.hid (show MapB W BM n s.T by rw [hW]; exact MB.out.alloc _)
        have NW := Lib.hid (show W.cell? ⟨g, 0, none⟩ ≠ some (.map (some BM)) by rw [hW]; exact cell0_below Q.out NE.out ((Below.refl _ _).alloc (Nat.le_refl _) _))
        have BW := Lib.hid (show Below w.heap.size w W by rw [hW]; exact BB.out.alloc BB.out.size _)
        have hzW : w1.heap.size ≤ W.heap.size := by rw [hW]; simp; omega
        have hgg : g ≠ gx := by have := Q.out.lt; omega
        clear Q BB MB NE
        go_wp2_with fail
        rw [← hW, ← hgx]
        clear hW hgx q0 q1 q2 q3 q4
        refine (CP.out W (RP.out.below BW.out)).mono ?_
        rintro e6 w6 ⟨A6, c6, rfl, o6, b6⟩
        have KW6 := KW.below b6 KW.lt
        have Q6 := Lib.hid (QW.out.keep b6)
        have M6 := Lib.hid (MW.out.below b6)
        have N6 := Lib.hid (cell0_below QW.out NW.out b6)
        have B6 := Lib.hid (BW.out.trans (b6.mono BW.out.size))
        have hz6 : w1.heap.size ≤ w6.heap.size := Nat.le_trans hzW b6.size
        have O6 := Lib.hid o6
        have k60 := KW6.cell 0
        have k61 := KW6.cell 1
        have k63 := KW6.cell 3
        have k64 := KW6.cell 4
        simp at k60 k61 k63 k64
        have HKW := Lib.hid KW6
        clear KW KW6 QW MW NW BW o6 b6 RP
        by_cases h7 : 5 ≤ d % 7
        · have hd7 : decide (5 ≤ d % 7) = true := by simpa using h7
          obtain ⟨N, hN⟩ : ∃ N, N = takeN s pn := ⟨_, rfl⟩
          have TK := Lib.hid (Take_any w1.heap.size g m s pn N w6 Q6.out x4 hz6 (by omega) hN)
          clear hN
          go_wp2_with fail
          refine TK.out.mono ?_
          rintro r w7 ⟨⟨A7, c7, rfl, _⟩, q7, k7, b7⟩
          have Q7 := Lib.hid q7
          have hs7 : (qTake s N).T = s.T := rfl
          have M7 := Lib.hid (show MapB w7 BM n (qTake s N).T from M6.out.keep k7 N6.out)
          have N7 : Hid (w7.cell? ⟨g, 0, none⟩ ≠ some (.map (some BM))) := by
            obtain ⟨es, ck, hb⟩ := M6.out.obj
            exact Lib.hid (k7.2 BM es ck hb N6.out).2
          have B7 := Lib.hid (B6.out.trans (b7.mono hz1))
          have hz7 : w1.heap.size ≤ w7.heap.size := Nat.le_trans hz6 b7.size
          have hT7 : (qTake s N).T.length = s.T.length := rfl
          generalize qTake s N = s7 at *
          clear q7 k7 b7 TK Q6 M6 N6 B6 O6 k60 k61 k63 k64
          have ER := Read_any w1.heap.size g _ s7 w7 Q7.out
          have EL := Held_any w1.heap.size g _ s7 w7 Q7.out
          have EY := Ready_any w1.heap.size g _ s7 w7 Q7.out
          have EL2 := Lib.hid (fun k => Held_any w1.heap.size g _ s7 (w7.drewN k) (Q7.out.drewN k))
          have LEN := M7.out.len 3
          have ok9 := Q7.out.ok
          have hwl : s7.wh ≤ s7.T.length := ok9.came.len ok9.whl
          have r90 := ok9.r0
          have r91 := ok9.r1
          have hT9 : s7.T.length ≤ 3000 := by omega
          obtain ⟨R, hR⟩ : ∃ R, R = s7.rd := ⟨_, rfl⟩
          obtain ⟨HH, hHH⟩ : ∃ HH, HH = (s7.T.length : Int) - s7.rd := ⟨_, rfl⟩
          obtain ⟨Y, hY⟩ : ∃ Y, Y = s7.wh - s7.rd := ⟨_, rfl⟩
          obtain ⟨LL, hLL⟩ : ∃ LL, LL = (s7.T.length : Int) := ⟨_, rfl⟩
          rw [← hR] at ER
          rw [← hHH] at EL EL2
          rw [← hY] at EY
          rw [← hLL] at LEN
          have ws : IntKind.i64.wrap (R + HH) = LL := by rw [show R + HH = LL by omega]; exact IntWalk.i64_in _ (by omega)
          have wR : IntKind.i64.wrap R = R := IntWalk.i64_in _ (by omega)
          have hdY : decide (HH < Y) = false := by simp; omega
          have hER := Lib.hid ER
          have hEL := Lib.hid EL
          have hEY := Lib.hid EY
          clear ER EL EY ok9 hR hHH hY hLL hwl r90 r91
          go_wp2_with fail
          refine hER.out.mono ?_
          rintro r w9 ⟨rfl, rfl⟩
          go_wp2_with fail
          refine hEL.out.mono ?_
          rintro r w9 ⟨rfl, rfl⟩
          go_wp2_with fail
          refine hEY.out.mono ?_
          rintro r w9 ⟨rfl, kk, rfl⟩
          go_wp2_with fail
          refine (EL2.out kk).mono ?_
          rintro r w9 ⟨rfl, rfl⟩
          go_wp2_with fail
          go_roundw
          case rel => exact ⟨k + 1, m, n, s7, by omega, by go_num, by have := HM.out; omega, by have := HM.out; omega, by have := HM.out; omega, Lib.hid (Q7.out.drewN kk), Lib.hid (M7.out.drewN kk), N7, Lib.hid (below_drewN B7.out kk), hz7⟩
          case measure => simp [intOf]; omega
        · have hd7 : decide (5 ≤ d % 7) = false := by simpa using h7
          have HCAME := Lib.hid Q6.out.ok.came
          have P6 := Put_any w1.heap.size g m s O A6 c6 PP pe w6 Q6.out (src_own O6.out Q6.out hPPb.out) (HT.out.keep hgl B6.out) hgl1 hz6 (by omega) (WalkArith.wf_u64 (by omega)) (by omega) (by omega)
          by_cases hz0 : putCode s O PP.length pe = 0
          · rw [hz0] at P6
            have HP6 := Lib.hid P6
            clear P6 hz0 O6 CP
            go_wp2_with fail
            refine HP6.out.mono ?_
            rintro r w7 ⟨rfl, ⟨s7, h1, _, q7⟩, k7, b7⟩
            have hPT := h1 trivial
            have hT7 := Lib.hid hPT.T
            have hT7l := putT_le hPT
            have Q7 := Lib.hid q7
            have M7 := Lib.hid (M6.out.keep k7 N6.out)
            have N7 : Hid (w7.cell? ⟨g, 0, none⟩ ≠ some (.map (some BM))) := by
              obtain ⟨es, ck, hb⟩ := M6.out.obj
              exact Lib.hid (k7.2 BM es ck hb N6.out).2
            have B7 := Lib.hid (B6.out.trans (b7.mono hz1))
            have hz7 : w1.heap.size ≤ w7.heap.size := Nat.le_trans hz6 b7.size
            have KW7 := Lib.hid (k7.blk (Ne.symm hgg) (by decide) HKW.out)
            clear h1 hPT q7 k7 b7 HP6 Q6 M6 N6 B6 k60 k61 k63 k64 HKW
            go_wp2_with fail
            go_loopw [47] (fun j wq => ∃ jj : Nat, jj ≤ PP.length ∧ j = .int .i64 jj ∧ Hid (Qlt wq w1.heap.size g (m + PP.length) s7) ∧ Hid (MapB wq BM (n + jj) (s.T ++ news s.f O jj)) ∧ Hid (wq.cell? ⟨g, 0, none⟩ ≠ some (.map (some BM))) ∧ Hid (Below w.heap.size w wq) ∧ w1.heap.size ≤ wq.heap.size ∧ Hid (Blk wq gx 31 #[.int .u8 d, .int .u64 O, .slice pA pp.length pc, .bool pe, .int .i64 pn])) (fun j _ => PP.length - (intOf j).toNat)
            case atStart => exact ⟨0, by omega, rfl, Q7, Lib.hid (by simpa [news] using M7.out), N7, B7, hz7, KW7⟩
            case round =>
              obtain ⟨jj, hjj, rfl, Q8, M8, N8, B8, hz8, KW8⟩ := hrel
              clear Q7 M7 N7 B7 hz7 KW7
              by_cases hjl : jj < PP.length
              · have k81 := KW8.out.cell 1
                simp at k81
                have wjj : IntKind.u64.wrap (jj : Int) = (jj : Int) := IntWalk.u64_in _ (by omega)
                have wOj : IntKind.u64.wrap (O + (jj : Int)) = O + (jj : Int) := IntWalk.u64_in _ (by omega)
                have hwO : (Lit.int .u64 (O + (jj : Int))).wf = true := WalkArith.wf_u64 (by omega)
                go_wp2_with (at_mapUpdate; go_must (refine wpList_mapB rfl (.tmp 50) (.tmp 55) (.const (.bool true)) rfl BM (n + jj) (s.T ++ news s.f O jj) (O + (jj : Int)) rfl rfl rfl hwO M8.out (by unfold maxLen; omega) ?_); intro w9 m9 g9)
                obtain ⟨es, ck, hbM⟩ := M8.out.obj
                have Q9 := Lib.hid (Q8.out.map hbM N8.out g9)
                have N9 := Lib.hid (Q8.out.other N8.out g9 (Q8.out.neM hbM))
                have B9 := Lib.hid (below_gb B8.out g9 hwBM B8.out.size)
                have hz9 : w1.heap.size ≤ w9.heap.size := Nat.le_trans hz8 g9.size
                have K9 := Lib.hid (KW8.out.grown g9 (by
                  intro e
                  injection e with e
                  subst e
                  rw [show _ = _ from KW8.out] at hbM
                  cases hbM))
                rw [news_next HCAME.out] at m9
                have M9 := Lib.hid m9
                clear m9 g9 hbM
                go_roundw
                case rel => exact ⟨jj + 1, by omega, by go_num, Q9, M9, N9, B9, hz9, K9⟩
                case measure => simp [intOf]; omega
              · obtain rfl : jj = PP.length := by omega
                have MX := Lib.hid (show MapB _ BM (n + PP.length) s7.T by rw [hT7.out]; exact M8.out)
                clear M8
                have ER := Read_any w1.heap.size g _ s7 _ Q8.out
                have EL := Held_any w1.heap.size g _ s7 _ Q8.out
                have EY := Ready_any w1.heap.size g _ s7 _ Q8.out
                have EL2 := Lib.hid (fun k => Held_any w1.heap.size g _ s7 _ (Q8.out.drewN k))
                have LEN := MX.out.len 3
                have ok9 := Q8.out.ok
                have hwl : s7.wh ≤ s7.T.length := ok9.came.len ok9.whl
                have r90 := ok9.r0
                have r91 := ok9.r1
                have hT9 : s7.T.length ≤ 3000 := by omega
                obtain ⟨R, hR⟩ : ∃ R, R = s7.rd := ⟨_, rfl⟩
                obtain ⟨HH, hHH⟩ : ∃ HH, HH = (s7.T.length : Int) - s7.rd := ⟨_, rfl⟩
                obtain ⟨Y, hY⟩ : ∃ Y, Y = s7.wh - s7.rd := ⟨_, rfl⟩
                obtain ⟨LL, hLL⟩ : ∃ LL, LL = (s7.T.length : Int) := ⟨_, rfl⟩
                rw [← hR] at ER
                rw [← hHH] at EL EL2
                rw [← hY] at EY
                rw [← hLL] at LEN
                have ws : IntKind.i64.wrap (R + HH) = LL := by rw [show R + HH = LL by omega]; exact IntWalk.i64_in _ (by omega)
                have wR : IntKind.i64.wrap R = R := IntWalk.i64_in _ (by omega)
                have hdY : decide (HH < Y) = false := by simp; omega
                have hER := Lib.hid ER
                have hEL := Lib.hid EL
                have hEY := Lib.hid EY
                clear ER EL EY ok9 hR hHH hY hLL hwl r90 r91
                go_wp2_with fail
                refine hER.out.mono ?_
                rintro r w9 ⟨rfl, rfl⟩
                go_wp2_with fail
                refine hEL.out.mono ?_
                rintro r w9 ⟨rfl, rfl⟩
                go_wp2_with fail
                refine hEY.out.mono ?_
                rintro r w9 ⟨rfl, kk, rfl⟩
                go_wp2_with fail
                refine (EL2.out kk).mono ?_
                rintro r w9 ⟨rfl, rfl⟩
                go_wp2_with fail
                go_roundw
                case rel => exact ⟨k + 1, m + PP.length, n + PP.length, s7, by omega, by go_num, by have := HM.out; omega, by have := HM.out; omega, by have := HM.out; omega, Lib.hid (Q8.out.drewN kk), Lib.hid (MX.out.drewN kk), N8, Lib.hid (below_drewN B8.out kk), hz8⟩
                case measure => simp [intOf]; omega
          · obtain ⟨cd, hcd⟩ : ∃ cd, cd = putCode s O PP.length pe := ⟨_, rfl⟩
            rw [← hcd] at P6 hz0
            have hcb : (cd == 0) = false := by rw [beq_eq_false_iff_ne]; exact hz0
            have HP6 := Lib.hid P6
            clear P6 O6 CP hcd
            go_wp2_with fail
            refine HP6.out.mono ?_
            rintro r w7 ⟨rfl, ⟨s7, _, h2, q7⟩, k7, b7⟩
            obtain rfl : s7 = s := h2 hz0
            have Q7 := Lib.hid q7
            have M7 := Lib.hid (M6.out.keep k7 N6.out)
            have N7 : Hid (w7.cell? ⟨g, 0, none⟩ ≠ some (.map (some BM))) := by
              obtain ⟨es, ck, hb⟩ := M6.out.obj
              exact Lib.hid (k7.2 BM es ck hb N6.out).2
            have B7 := Lib.hid (B6.out.trans (b7.mono hz1))
            have hz7 : w1.heap.size ≤ w7.heap.size := Nat.le_trans hz6 b7.size
            clear h2 q7 k7 b7 HP6 Q6 M6 N6 B6 k60 k61 k63 k64 HKW
            have ER := Read_any w1.heap.size g _ s7 w7 Q7.out
            have EL := Held_any w1.heap.size g _ s7 w7 Q7.out
            have EY := Ready_any w1.heap.size g _ s7 w7 Q7.out
            have EL2 := Lib.hid (fun k => Held_any w1.heap.size g _ s7 (w7.drewN k) (Q7.out.drewN k))
            have LEN := M7.out.len 3
            have ok9 := Q7.out.ok
            have hwl : s7.wh ≤ s7.T.length := ok9.came.len ok9.whl
            have r90 := ok9.r0
            have r91 := ok9.r1
            have hT9 : s7.T.length ≤ 3000 := by omega
            obtain ⟨R, hR⟩ : ∃ R, R = s7.rd := ⟨_, rfl⟩
            obtain ⟨HH, hHH⟩ : ∃ HH, HH = (s7.T.length : Int) - s7.rd := ⟨_, rfl⟩
            obtain ⟨Y, hY⟩ : ∃ Y, Y = s7.wh - s7.rd := ⟨_, rfl⟩
            obtain ⟨LL, hLL⟩ : ∃ LL, LL = (s7.T.length : Int) := ⟨_, rfl⟩
            rw [← hR] at ER
            rw [← hHH] at EL EL2
            rw [← hY] at EY
            rw [← hLL] at LEN
            have ws : IntKind.i64.wrap (R + HH) = LL := by rw [show R + HH = LL by omega]; exact IntWalk.i64_in _ (by omega)
            have wR : IntKind.i64.wrap R = R := IntWalk.i64_in _ (by omega)
            have hdY : decide (HH < Y) = false := by simp; omega
            have hER := Lib.hid ER
            have hEL := Lib.hid EL
            have hEY := Lib.hid EY
            clear ER EL EY ok9 hR hHH hY hLL hwl r90 r91
            go_wp2_with fail
            refine hER.out.mono ?_
            rintro r w9 ⟨rfl, rfl⟩
            go_wp2_with fail
            refine hEL.out.mono ?_
            rintro r w9 ⟨rfl, rfl⟩
            go_wp2_with fail
            refine hEY.out.mono ?_
            rintro r w9 ⟨rfl, kk, rfl⟩
            go_wp2_with fail
            refine (EL2.out kk).mono ?_
            rintro r w9 ⟨rfl, rfl⟩
            go_wp2_with fail
            go_roundw
            case rel => exact ⟨k + 1, m + PP.length, n, s7, by omega, by go_num, by have := HM.out; omega, by have := HM.out; omega, by have := HM.out; omega, Lib.hid (Q7.out.drewN kk), Lib.hid (M7.out.drewN kk), N7, Lib.hid (below_drewN B7.out kk), hz7⟩
            case measure => simp [intOf]; omega
      · have hd : decide (40 ≤ (k : Int)) = true := by simp; omega
        obtain ⟨W, hW⟩ : ∃ W, W = wr.alloc (.cells #[.int .u8 d, .int .u64 o, .slice pA pp.length pc, .bool pe, .int .i64 pn] 31) := ⟨_, rfl⟩
        have BW := Lib.hid (show Below w.heap.size w W by rw [hW]; exact BB.out.alloc BB.out.size _)
        clear Q MB NE x2 x3
        go_wp2_with fail
        go_ret
        rw [← hW]
        exact ⟨rfl, BW.out⟩
    · obtain rfl : k = l.length := by omega
      go_wp2_with fail
      go_ret
      exact ⟨rfl, BB.out⟩
end Go.Proofs.YtdafeokjedmnkaaDoor
