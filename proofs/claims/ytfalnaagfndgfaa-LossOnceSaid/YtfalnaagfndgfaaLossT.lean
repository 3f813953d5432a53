/-
  LossOnce: the walk.
-/
import Derived.Test.YtfalnaagfndgfaaLossS
import Derived.Deep.DeepCutAuto
import Derived.Deep.CutBlock
namespace Go.Proofs.Ytfalnaagfndgfaa
open Go.RowKit Go.Maps
set_option linter.unusedVariables false
set_option linter.unusedSimpArgs false
set_option maxHeartbeats 2000000 in
set_option maxRecDepth 100000 in
theorem once_walk (A0 : Option Addr) (c0 : Nat) (xs : List LossOp) (w : World) (hr : RdT 9 LossOpC (LossOpOk w) w A0 xs) (hxl : xs.length ≤ 9223372036854775807) :
    Calls Try.prog 4 #[.slice A0 xs.length c0] w fun e w' => e = .returned (.bool true) ∧ Below w.heap.size w w' := by
  have hmm := @run_makeMap Try.prog
  have HR := Lib.hid hr
  clear hr
  go_enter Try.func4, Try.ntmps4
  go_wp2_with fail
  refine (awake9_any _).mono ?_
  rintro e w1 ⟨rfl, b1⟩
  have B1 := Lib.hid b1
  clear b1
  go_wp2_with fail
  refine (LNew_any w1 w1.heap.size (Nat.le_refl _)).mono ?_
  rintro e w2 ⟨g, rfl, h2, hg, b2⟩
  have hz1 := B1.out.size
  have hz2 := b2.size
  obtain ⟨B, hB⟩ : ∃ B, B = w2.heap.size := ⟨_, rfl⟩
  have S0 := Lib.hid (show ON w (w2.alloc (.map #[] 0)) w1.heap.size g none 0 lgN B 0 [] from ⟨h2.below ((Below.refl _ _).alloc (Nat.le_refl _) _), lgN_ok, by rw [hB]; rw [show fc [] (nus lgN.op) = fun _ => none from fc_none]; exact MapC.made w2, fun x hx => hx, fun x hx => by simp at hx, (B1.out.trans (b2.mono hz1)).alloc (by omega) _, by omega, hz1, by simp; omega⟩)
  clear h2 b2
  go_wp2_with fail
  rw [← hB]
  clear hB
  go_loopw [21] (fun i wr => ∃ (k n : Nat) (l : LG) (A : Option Addr) (c : Nat) (S : List Int), k ≤ xs.length ∧ i = .int .i64 k ∧ k ≤ 60 ∧ n ≤ 61 * k ∧ l.op.length ≤ k ∧ Hid (ON w wr w1.heap.size g A c l B n S)) (fun i _ => xs.length - (intOf i).toNat)
  case atStart => exact ⟨0, 0, lgN, none, 0, [], by omega, rfl, by omega, by omega, by decide, S0⟩
  case round =>
    obtain ⟨k, n, l, A, c, S, hk, rfl, hk60, hn, hll, HS⟩ := hrel
    clear S0
    by_cases hlt : k < xs.length
    · obtain ⟨b, off, x', rfl, hb, hx, hok, hc⟩ := (HR.out.below HS.out.bel).at_ hlt
      have q0 := hc 0 (by omega)
      have q1 := hc 1 (by omega)
      have q2 := hc 2 (by omega)
      have q3 := hc 3 (by omega)
      have q4 := hc 4 (by omega)
      have q5 := hc 5 (by omega)
      have q6 := hc 6 (by omega)
      have q7 := hc 7 (by omega)
      have q8 := hc 8 (by omega)
      clear hc hx
      obtain ⟨d, ⟨pn, ps, pz, pa, pg⟩, rA, rc, rr, nw, wt⟩ := x'
      obtain ⟨o0, ⟨o1, o2, o3⟩, o4, o5, o6⟩ := hok
      simp only at o0 o1 o2 o3 o4 o5 o6
      simp [LossOpC] at q0 q1 q2 q3 q4 q5 q6 q7 q8
      have hd0 := wf_u8 o0
      obtain ⟨W, hW⟩ : ∃ W, W = wr.alloc (.cells #[.int .u8 d, .int .u64 pn, .int .u64 ps, .int .i64 pz, .bool pa, .bool pg, .slice rA rr.length rc, .int .u64 nw, .int .u64 wt] 35) := ⟨_, rfl⟩
      have HSW := Lib.hid (show ON w W w1.heap.size g A c l B n S by rw [hW]; exact HS.out.alloc _)
      have hKW : Blk W wr.heap.size 35 #[.int .u8 d, .int .u64 pn, .int .u64 ps, .int .i64 pz, .bool pa, .bool pg, .slice rA rr.length rc, .int .u64 nw, .int .u64 wt] := by rw [hW]; exact Blk.new _ _ _
      have HW := Lib.hid hW
      have zW := hKW.lt
      have hSb : ¬ LedS g A wr.heap.size := fun hs => by
        rcases hs with h1 | h1
        · have := HS.out.led.lt; omega
        · exact absurd (OwnV.row_lt HS.out.led.own (k := wr.heap.size) (by rw [← h1]; exact ownBlock_len _ _ _ _ _)) (Nat.lt_irrefl _)
      clear HS hW
      by_cases hk2 : 60 ≤ k
      · have hd : decide (60 ≤ (k : Int)) = true := by simp; omega
        clear hKW
        have HBL := Lib.hid HSW.out.bel
        go_wp2_with fail
        rw [← HW.out]
        go_ret
        exact ⟨rfl, HBL.out⟩
      · have hd : decide (60 ≤ (k : Int)) = false := by simp; omega
        obtain ⟨D7, hD7⟩ : ∃ D7, D7 = d % 7 := ⟨_, rfl⟩
        have e7 : d % 7 = D7 := hD7.symm
        clear hD7
        go_upto_block 2 with (fail)
        rw [e7, ← HW.out]
        clear e7 q0 q1 q2 q3 q4 q5 q6 q7 q8
        have ways : ((D7 == 3) = true) ∨ ((D7 == 3) = false ∧ (D7 == 4) = true) ∨ ((D7 == 3) = false ∧ (D7 == 4) = false ∧ (D7 == 5) = true) ∨ ((D7 == 3) = false ∧ (D7 == 4) = false ∧ (D7 == 5) = false ∧ (D7 == 6) = true) ∨ ((D7 == 3) = false ∧ (D7 == 4) = false ∧ (D7 == 5) = false ∧ (D7 == 6) = false) := by
          cases h3 : (D7 == 3) <;> cases h4 : (D7 == 4) <;> cases h5 : (D7 == 5) <;> cases h6 : (D7 == 6) <;> simp
        have k1 := hKW.cell 1
        have k2 := hKW.cell 2
        have k3 := hKW.cell 3
        have k4 := hKW.cell 4
        have k6 := hKW.cell 6
        have k7 := hKW.cell 7
        have k8 := hKW.cell 8
        simp at k1 k2 k3 k4 k6 k7 k8
        go_cut [7] (fun gn wx => ∃ (A2 : Option Addr) (c2 m : Nat), gn = .slice A2 m c2 ∧ Hid (∃ (G : List PK) (l' : LG) (A' : Option Addr) (c' : Nat) (S' : List Int) (n' : Nat), m = G.length ∧ m ≤ 60 ∧ l'.op.length ≤ k + 1 ∧ n' ≤ n + 1 ∧ AF w wx w1.heap.size g A' c' l' B n' S' W.heap.size A2 c2 G 0))
        case first =>
          rcases ways with g3 | ⟨g3, g4⟩ | ⟨g3, g4, g5⟩ | ⟨g3, g4, g5, g6⟩ | ⟨g3, g4, g5, g6⟩
          · as_aux_lemma =>
              have hz6 : min (rr.length : Int) 6 = ((min rr.length 6 : Nat) : Int) := by omega
              have hsl := slice_rg rA rc rr.length (min rr.length 6) _ hz6 (Nat.min_le_left _ _) o4.le W
              have htl : (rr.take (min rr.length 6)).length = min rr.length 6 := by rw [List.length_take]; omega
              obtain ⟨m6, hm6⟩ : ∃ m6, m6 = min rr.length 6 := ⟨_, rfl⟩
              rw [← hm6] at hsl htl
              have hr0 : RdG w rA (rr.take m6) := o4.rd.upto (by omega)
              have hA := LAck_any w1.heap.size g A c l rA rc (rr.take m6) W HSW.out.led HSW.out.ok (hr0.below HSW.out.bel)
                (fun a ha hn e => by obtain ⟨ad, e2, hb2, _⟩ := hr0.2 hn; rw [e2] at ha; injection ha with ha; subst ha; omega)
                (fun x hx => o4.ok x (List.mem_of_mem_take hx)) HSW.out.hbw (by omega) (by rw [htl]; omega)
              rw [htl] at hA
              have HACK := Lib.hid hA
              have HO4 := Lib.hid o4
              clear hA hr0 htl hm6 hz6 o4 hKW
              go_wp2_with fail
              refine HACK.out.mono ?_
              rintro e w4 ⟨A2, c2, rfl, hT⟩
              obtain ⟨A3, c3, hAF⟩ := HSW.out.went hT.own hT.to (ack_parts l _) (lAck_ok HSW.out.ok) (lAck_nx l _)
              have hle := (ack_parts l (rr.take m6)).le
              have HAF := Lib.hid hAF
              have HLE := Lib.hid hle
              obtain ⟨G, hG⟩ : ∃ G, G = ackL l (rr.take m6) := ⟨_, rfl⟩
              obtain ⟨E, hE⟩ : ∃ E, E = ackE l (rr.take m6) := ⟨_, rfl⟩
              rw [← hG] at HAF HLE ⊢
              rw [← hE]
              clear hT hAF hle HACK hG hE
              go_wp2_with fail
              go_meet
              exact ⟨_, _, _, rfl, Lib.hid ⟨G, _, A3, c3, S, n, rfl, by have := HLE.out; omega, by have := HLE.out; omega, by omega, HAF.out⟩⟩
          · as_aux_lemma =>
              have hz6 : min (rr.length : Int) 6 = ((min rr.length 6 : Nat) : Int) := by omega
              have hsl := slice_rg rA rc rr.length (min rr.length 6) _ hz6 (Nat.min_le_left _ _) o4.le W
              have htl : (rr.take (min rr.length 6)).length = min rr.length 6 := by rw [List.length_take]; omega
              obtain ⟨m6, hm6⟩ : ∃ m6, m6 = min rr.length 6 := ⟨_, rfl⟩
              rw [← hm6] at hsl htl
              have hr0 : RdG w rA (rr.take m6) := o4.rd.upto (by omega)
              have hA := LAck_any w1.heap.size g A c l rA rc (rr.take m6) W HSW.out.led HSW.out.ok (hr0.below HSW.out.bel)
                (fun a ha hn e => by obtain ⟨ad, e2, hb2, _⟩ := hr0.2 hn; rw [e2] at ha; injection ha with ha; subst ha; omega)
                (fun x hx => o4.ok x (List.mem_of_mem_take hx)) HSW.out.hbw (by omega) (by rw [htl]; omega)
              rw [htl] at hA
              have HACK := Lib.hid hA
              have HO4 := Lib.hid o4
              clear hA hr0 htl hm6 hz6 o4 hKW
              go_wp2_with fail
              refine HACK.out.mono ?_
              rintro e w4 ⟨A2, c2, rfl, hT⟩
              obtain ⟨A3, c3, hAF⟩ := HSW.out.went hT.own hT.to (ack_parts l _) (lAck_ok HSW.out.ok) (lAck_nx l _)
              have hle := (ack_parts l (rr.take m6)).le
              have HAF := Lib.hid hAF
              have HLE := Lib.hid hle
              obtain ⟨G, hG⟩ : ∃ G, G = ackL l (rr.take m6) := ⟨_, rfl⟩
              obtain ⟨E, hE⟩ : ∃ E, E = ackE l (rr.take m6) := ⟨_, rfl⟩
              rw [← hG] at HAF HLE ⊢
              rw [← hE]
              clear hT hAF hle HACK hG hE
              go_wp2_with fail
              go_meet
              exact ⟨_, _, _, rfl, Lib.hid ⟨G, _, A3, c3, S, n, rfl, by have := HLE.out; omega, by have := HLE.out; omega, by omega, HAF.out⟩⟩
          · as_aux_lemma =>
              have HLO := Lib.hid (LLost_any w1.heap.size g A c l nw wt W HSW.out.led HSW.out.ok (wf_u64 o5) (by omega))
              clear o4 hKW
              go_wp2_with fail
              refine HLO.out.mono ?_
              rintro e w4 ⟨A2, c2, rfl, hT⟩
              have hpt : Parts l.op (l.op.filter (lostP l nw wt)) (lLost l nw wt).op := ⟨lostP l nw wt, rfl, rfl⟩
              obtain ⟨A3, c3, hAF⟩ := HSW.out.went hT.own hT.to hpt (lLost_ok nw wt HSW.out.ok) rfl
              have hle := hpt.le
              have HAF := Lib.hid hAF
              have HLE := Lib.hid hle
              obtain ⟨G, hG⟩ : ∃ G, G = l.op.filter (lostP l nw wt) := ⟨_, rfl⟩
              rw [← hG] at HAF HLE ⊢
              clear hT hAF hle HLO hG hpt
              go_wp2_with fail
              go_meet
              exact ⟨_, _, _, rfl, Lib.hid ⟨G, _, A3, c3, S, n, rfl, by have := HLE.out; omega, by have := HLE.out; omega, by omega, HAF.out⟩⟩
          · as_aux_lemma =>
              have HLO := Lib.hid (LClear_any w1.heap.size g A c l W HSW.out.led (by omega))
              clear o4 hKW
              go_wp2_with fail
              refine HLO.out.mono ?_
              rintro e w4 ⟨A2, c2, rfl, hT⟩
              obtain ⟨A3, c3, hAF⟩ := HSW.out.went hT.own hT.to (clear_parts l) (lClear_ok HSW.out.ok) rfl
              have HAF := Lib.hid hAF
              clear hT hAF HLO
              go_wp2_with fail
              go_meet
              exact ⟨_, _, _, rfl, Lib.hid ⟨l.op, _, A3, c3, S, n, rfl, by omega, by simp, by omega, HAF.out⟩⟩
          · as_aux_lemma =>
              have hpn := wf_u64 o1
              have hps := wf_u64 o2
              have hpz := wf_i64 o3
              have HSE := Lib.hid (LSend_any w1.heap.size g A c l ⟨pn, ps, pz, pa⟩ W HSW.out.led HSW.out.hbw hpn.1 (by omega))
              have HK := Lib.hid hKW
              clear o4 hKW
              go_wp2_with fail
              refine HSE.out.mono ?_
              rintro e w4 ⟨rfl, hT⟩
              have K4 := hT.fr.keep HK.out hSb
              have k41 := K4.cell 1
              simp at k41
              by_cases hE : sendE l ⟨pn, ps, pz, pa⟩ = 0
              · have hge := sendE_ge hE
                simp only at hge
                have hnS : pn ∉ S := fun h => by have := HSW.out.lo _ h; omega
                have M4 := HSW.out.map.frm hT.fr (HSW.out.map.ledS HSW.out.led)
                have hwf := wfU hpn.1 hpn.2
                have LK := M4.look hwf
                rw [(fc_send hnS HSW.out.sub).1] at LK
                have HM4 := Lib.hid M4
                have HTT := Lib.hid hT
                have HEE := Lib.hid hE
                have HLEN := Lib.hid (lSend_len l ⟨pn, ps, pz, pa⟩)
                rw [hE]
                clear hT K4 M4 hE hge hnS HSE HK
                go_wp2_with (at_mapUpdate; go_must (refine wpList_mapC rfl (.tmp 47) (.tmp 50) (.tmp 52) rfl B n _ pn 1 rfl rfl rfl hwf (by decide) HM4.out (by unfold maxLen; omega) ?_); intro w9 m9 g9)
                obtain ⟨A3, c3, hON⟩ := HSW.out.sent HTT.out HEE.out hpn.1 hps.1 hpz.2 m9 g9
                have HON := Lib.hid (hON.idle W.heap.size)
                clear m9 g9 hON
                go_wp2_with fail
                go_meet
                exact ⟨_, _, _, rfl, Lib.hid ⟨[], _, A3, c3, _, n + 1, rfl, by omega, by have := HLEN.out; omega, by omega, HON.out⟩⟩
              · obtain ⟨E, hEE⟩ : ∃ E, E = sendE l ⟨pn, ps, pz, pa⟩ := ⟨_, rfl⟩
                have hls : lSend l ⟨pn, ps, pz, pa⟩ = l := by unfold lSend; rw [if_neg hE]
                rw [hls] at hT
                obtain ⟨A3, c3, hON⟩ := HSW.out.kept hT
                have HON := Lib.hid (hON.idle W.heap.size)
                rw [← hEE] at hE ⊢
                have hd2 : decide (E = 0) = false := by simpa using hE
                clear hT hON hls HSE hEE K4 HK
                go_wp2_with fail
                go_meet
                exact ⟨_, _, _, rfl, Lib.hid ⟨[], _, A3, c3, S, n, rfl, by omega, by omega, by omega, HON.out⟩⟩
        case rest =>
         as_aux_lemma =>
          obtain ⟨A2, c2, m, rfl, hcc⟩ := hcut
          obtain ⟨G, l', A', c', S', n', rfl, h60, hl', hn', hAF⟩ := hcc.out
          have HAF := Lib.hid hAF
          clear hcc hAF k1 k2 k3 k4 k6 k7 k8 hKW HSW o4 ways hll
          go_wp2_with fail
          go_loopw [82] (fun j wq => ∃ jj : Nat, jj ≤ G.length ∧ j = .int .i64 jj ∧ Hid (AF w wq w1.heap.size g A' c' l' B n' S' W.heap.size A2 c2 G jj)) (fun j _ => G.length - (intOf j).toNat)
          case atStart => exact ⟨0, by omega, rfl, HAF⟩
          case round =>
            obtain ⟨jj, hjj, rfl, HA⟩ := hrel
            clear HAF
            by_cases hlt2 : jj < G.length
            · obtain ⟨p, hx⟩ : ∃ p, G[jj]? = some p := ⟨_, List.getElem?_eq_getElem hlt2⟩
              obtain ⟨b2, off2, rfl, zb, hcell⟩ := OwnP.at0 HA.out.own hx
              have hps := HA.out.lo p.nu (HA.out.sub _ (List.mem_append_right _ (List.mem_map.2 ⟨p, List.mem_of_getElem? hx, rfl⟩)))
              have hnx := HA.out.ok.nx1
              have x0 := hcell 0 (by omega)
              have x1 := hcell 1 (by omega)
              have x2 := hcell 2 (by omega)
              have x3 := hcell 3 (by omega)
              clear hcell
              obtain ⟨nu, se, si, aq⟩ := p
              simp [PkC] at x0 x1 x2 x3
              rw [← Nat.add_assoc] at x1 x2 x3
              simp only at hps
              have hwf := wfU (x := nu) hps.1 (by omega)
              have HA1 := Lib.hid (HA.out.alloc (.cells #[.int .u64 nu, .int .u64 se, .int .i64 si, .bool aq] 49))
              have LK := HA1.out.map.look hwf
              rw [HA1.out.val hx] at LK
              have HX := Lib.hid hx
              clear hx HA
              go_wp2_with (at_mapUpdate; go_must (refine wpList_mapC rfl (.tmp 86) (.tmp 88) (.tmp 90) rfl B (n' + jj) _ nu 11 rfl rfl rfl hwf (by decide) HA1.out.map (by unfold maxLen; omega) ?_); intro w9 m9 g9)
              have HM := Lib.hid (HA1.out.mark HX.out m9 g9)
              clear m9 g9
              go_roundw
              case rel => exact ⟨jj + 1, by omega, by go_num, HM⟩
              case measure => simp [intOf]; omega
            · have hd2 : decide (jj < G.length) = false := by simpa using hlt2
              have HON := Lib.hid (HA.out.done (by omega))
              obtain ⟨nn, hnn⟩ : ∃ nn, nn = n' + jj := ⟨_, rfl⟩
              rw [← hnn] at HON
              have hnn2 : nn ≤ 61 * (k + 1) := by omega
              clear HA hnn
              rename World => wv
              obtain ⟨D, hown, hD⟩ := HON.out.map
              have HD := Lib.hid hD
              have HOWN := Lib.hid hown
              have hBv := HON.out.map.lt
              clear hD hown
              go_wp2_with (at_range; go_must (refine wpList_range_own _ rfl (.tmp 92) 59 rfl 28 3 keyedU Try.underlying59 (plainElem Try.prog 3) B nn D rfl HOWN.out ?_); intro w0 hrg0 hg0 hs0)
              go_frame
              go_loopw [11] (fun n11 wq => ∃ (left : Lit → Bool) (cnt : Nat), Hid (wq.ranges Try.prog 28 (plainElem Try.prog 3) B wv.heap.size nn D left cnt ∧ (∀ z, left z = true → Maps.has D z = true) ∧ wv.grownBy wq none)) (fun _ wq => wq.rangeLeft B wv.heap.size)
              case atStart => exact ⟨_, _, Lib.hid ⟨hrg0, fun z hz => hz, hg0⟩⟩
              case round =>
                obtain ⟨left, cnt, HI⟩ := hrel
                clear hrg0 hg0 hs0
                go_wp2_with (at_next; go_must (refine wpList_next_ranges_ii _ rfl (.tmp 93) rfl 28 3 .u64 .i64 keyedU Try.underlying28 Try.underlying3 B wv.heap.size nn D left cnt rfl HI.out.1 ?_ ?_))
                · intro hc0 hl0
                  rename World => wz
                  have HON2 := Lib.hid (HON.out.still HI.out.2.2)
                  obtain ⟨D2, hown2, hD2⟩ := HON2.out.map
                  have HD2 := Lib.hid hD2
                  have HOWN2 := Lib.hid hown2
                  have hBz := HON2.out.map.lt
                  have HOP := Lib.hid (HON2.out.ok.up)
                  clear hD2 hown2 hl0 hc0 HI HD HOWN HON
                  go_wp2_with (at_range; go_must (refine wpList_range_own _ rfl (.tmp 104) 59 rfl 28 3 keyedU Try.underlying59 (plainElem Try.prog 3) B nn D2 rfl HOWN2.out ?_); intro w5 hrg5 hg5 hs5)
                  go_frame
                  go_loopw [12] (fun m12 wq => ∃ (left : Lit → Bool) (cnt : Nat), m12 = .int .i64 (cntO (nus l'.op) left) ∧ Hid (wq.ranges Try.prog 28 (plainElem Try.prog 3) B wz.heap.size nn D2 left cnt ∧ (∀ z, left z = true → Maps.has D2 z = true) ∧ wz.grownBy wq none)) (fun _ wq => wq.rangeLeft B wz.heap.size)
                  case atStart =>
                    have hz0 : cntO (nus l'.op) (Maps.has D2) = 0 := cntO_start (fun x hx => by
                      have h1 := HON2.out.lo x (HON2.out.sub x hx)
                      have h2 := HON2.out.ok.nx1
                      rw [(HD2.out x (wfU h1.1 (by omega))).1]
                      unfold fc
                      rw [if_pos hx]
                      rfl)
                    exact ⟨_, _, by rw [hz0]; rfl, Lib.hid ⟨hrg5, fun z hz => hz, hg5⟩⟩
                  case round =>
                    obtain ⟨left, cnt, rfl, HI⟩ := hrel
                    clear hrg5 hg5 hs5
                    have hcl := cntO_le (nus l'.op) left
                    have hnl : (nus l'.op).length = l'.op.length := by simp [nus]
                    rw [hnl] at hcl
                    go_wp2_with (at_next; go_must (refine wpList_next_ranges_ii _ rfl (.tmp 105) rfl 28 3 .u64 .i64 keyedU Try.underlying28 Try.underlying3 B wz.heap.size nn D2 left cnt rfl HI.out.1 ?_ ?_))
                    · intro hc0 hl0
                      have HON3 := Lib.hid (HON2.out.still HI.out.2.2)
                      have HOPEN := Lib.hid (LOpen_any w1.heap.size g A' c' l' wr HON3.out.led (by omega))
                      have he := cntO_end (O := nus l'.op) hl0
                      rw [hnl] at he
                      rw [he]
                      clear hl0 hc0 HI he hcl hnl
                      go_wp2_with fail
                      refine HOPEN.out.mono ?_
                      rintro e w6 ⟨A6, c6, rfl, _, b6⟩
                      have HON6 := Lib.hid (HON3.out.still (show wr.grownBy w6 none from ⟨b6.os, b6.tape, b6.output, b6.size, fun i hi _ => b6.block i hi⟩))
                      clear b6 HOPEN HON3 HON2
                      go_wp2_with fail
                      go_roundw
                      case rel => exact ⟨k + 1, nn, l', A', c', S', by omega, by go_num, by omega, by omega, hl', HON6⟩
                      case measure => simp [intOf]; omega
                    · intro y c w9 cnt1 hwx hwc hlx hat hrg1 hltc hg1 hs1 hen
                      have hcv : c = (fc S' (nus l'.op) y).getD 0 := by
                        have h1 := hat (.lit (.int .i64 0))
                        rw [(HD2.out y hwx).2] at h1
                        injection h1 with h1
                        injection h1 with _ h1
                        exact h1.symm
                      have hg2 : wz.grownBy w9 none := ⟨hg1.os.trans HI.out.2.2.os, hg1.tape.trans HI.out.2.2.tape, hg1.output.trans HI.out.2.2.output, by rw [hs1]; exact HI.out.2.2.size, fun i hi hne => (hg1.block i (Nat.lt_of_lt_of_le hi HI.out.2.2.size) (by intro e; injection e with e; omega)).trans (HI.out.2.2.block i hi hne)⟩
                      have HG2 := Lib.hid hg2
                      have HLE := Lib.hid (show wr.rangeLeft B wz.heap.size = cnt from HI.out.1.left_eq)
                      have HL2 := Lib.hid (fun z (hz : (left z && !z.sameKey (.int .u64 y)) = true) => HI.out.2.1 z (by rw [Bool.and_eq_true] at hz; exact hz.1))
                      have HR1 := Lib.hid hrg1
                      have HLT := Lib.hid hltc
                      have hfv := fc_vals (show (fc S' (nus l'.op) y).isSome = true by rw [← (HD2.out y hwx).1]; exact HI.out.2.1 _ hlx)
                      rw [← hcv] at hfv
                      have HLX := Lib.hid hlx
                      clear hrg1 hltc hg1 hs1 hg2 hat hwc hcv hlx
                      rcases hfv with ⟨hin, rfl⟩ | ⟨hin, rfl⟩
                      · have hcs := cntO_in (left := left) (show (nus l'.op).Nodup from by unfold nus; exact pairwise_nodup HOP.out) hin HLX.out
                        have HCS := Lib.hid hcs
                        clear hcs hin hnl
                        go_wp2_with fail
                        go_roundw
                        case rel => exact ⟨_, cnt1, by rw [HCS.out]; go_num, Lib.hid ⟨HR1.out, HL2.out, HG2.out⟩⟩
                        case measure => rw [HR1.out.left_eq, HLE.out]; exact HLT.out
                      · have hcs := cntO_out (left := left) hin
                        have HCS := Lib.hid hcs
                        clear hcs hin hnl
                        go_wp2_with fail
                        go_roundw
                        case rel => exact ⟨_, cnt1, by rw [HCS.out], Lib.hid ⟨HR1.out, HL2.out, HG2.out⟩⟩
                        case measure => rw [HR1.out.left_eq, HLE.out]; exact HLT.out
                · intro y c w9 cnt1 hwx hwc hlx hat hrg1 hltc hg1 hs1 hen
                  have hcv : c = (fc S' (nus l'.op) y).getD 0 := by
                    have h1 := hat (.lit (.int .i64 0))
                    rw [(HD.out y hwx).2] at h1
                    injection h1 with h1
                    injection h1 with _ h1
                    exact h1.symm
                  have hg2 : wv.grownBy w9 none := ⟨hg1.os.trans HI.out.2.2.os, hg1.tape.trans HI.out.2.2.tape, hg1.output.trans HI.out.2.2.output, by rw [hs1]; exact HI.out.2.2.size, fun i hi hne => (hg1.block i (Nat.lt_of_lt_of_le hi HI.out.2.2.size) (by intro e; injection e with e; omega)).trans (HI.out.2.2.block i hi hne)⟩
                  have HG2 := Lib.hid hg2
                  have HLE := Lib.hid (show wr.rangeLeft B wv.heap.size = cnt from HI.out.1.left_eq)
                  have HL2 := Lib.hid (fun z (hz : (left z && !z.sameKey (.int .u64 y)) = true) => HI.out.2.1 z (by rw [Bool.and_eq_true] at hz; exact hz.1))
                  have HR1 := Lib.hid hrg1
                  have HLT := Lib.hid hltc
                  have hfv := fc_vals (show (fc S' (nus l'.op) y).isSome = true by rw [← (HD.out y hwx).1]; exact HI.out.2.1 _ hlx)
                  rw [← hcv] at hfv
                  have HLX := Lib.hid hlx
                  clear hrg1 hltc hg1 hs1 hg2 hat hwc hcv hlx
                  rcases hfv with ⟨hin, rfl⟩ | ⟨hin, rfl⟩
                  · clear hin
                    go_wp2_with fail
                    go_roundw
                    case rel => exact ⟨_, cnt1, Lib.hid ⟨HR1.out, HL2.out, HG2.out⟩⟩
                    case measure => rw [HR1.out.left_eq, HLE.out]; exact HLT.out
                  · clear hin
                    go_wp2_with fail
                    go_roundw
                    case rel => exact ⟨_, cnt1, Lib.hid ⟨HR1.out, HL2.out, HG2.out⟩⟩
                    case measure => rw [HR1.out.left_eq, HLE.out]; exact HLT.out
    · have hd : decide (k < xs.length) = false := by simpa using hlt
      have HBL := Lib.hid HS.out.bel
      go_wp2_with fail
      go_ret
      exact ⟨rfl, HBL.out⟩
theorem once_walkF (A0 : Option Addr) (c0 : Nat) (xs : List LossOp) (w : World) (hr : RdT 9 LossOpC (LossOpOk w) w A0 xs) (h1 : xs.length ≤ c0) (h2 : c0 ≤ 9223372036854775807) (h3 : A0 = none → c0 = 0) :
    Calls Try.prog 4 #[.slice A0 xs.length c0] w fun e w' => e = .returned (.bool true) ∧ Below w.heap.size w w' :=
  once_walk A0 c0 xs w hr (Nat.le_trans h1 h2)
end Go.Proofs.Ytfalnaagfndgfaa
