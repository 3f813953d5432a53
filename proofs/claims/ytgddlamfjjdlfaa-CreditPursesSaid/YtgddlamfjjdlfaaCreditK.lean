/-
  CreditPurses, a purse.
-/
import Derived.Test.YtgddlamfjjdlfaaCreditJ
namespace Go.Proofs.Ytgddlamfjjdlfaa
open Go.RowKit
set_option linter.unusedVariables false
theorem RPu.drewN {w : World} {base x : Nat} {G S : Option Addr} {gc sc : Nat} {gr sp : List Int} (h : RPu w base x G gc gr S sc sp) (k : Nat) : RPu (w.drewN k) base x G gc gr S sc sp := ⟨h.blk, h.og, h.os, h.ap⟩
structure StP (w : World) (g x ob : Nat) (d n : Int) (P : PU) (G : Option Addr) (gc : Nat) (gr : List Int) (S : Option Addr) (sc : Nat) (sp : List Int) (W : World) : Prop where
  p : Pur W g P
  r : RPu W w.heap.size x G gc gr S sc sp
  k : Blk W ob 32 #[.int .u8 d, .int .u64 n]
  b : Below w.heap.size w W
section
variable {w W W' : World} {g x ob : Nat} {d n : Int} {P P' : PU} {G S G' S' : Option Addr} {gc sc gc' sc' : Nat} {gr sp gr' sp' : List Int}
theorem StP.k1 (h : StP w g x ob d n P G gc gr S sc sp W) : W.cell? ⟨ob, 1, none⟩ = some (.int .u64 n) := Blk.cell h.k 1
theorem StP.drewN (h : StP w g x ob d n P G gc gr S sc sp W) (k : Nat) : StP w g x ob d n P G gc gr S sc sp (W.drewN k) := ⟨h.p.drewN k, h.r.drewN k, h.k, below_drewN h.b k⟩
theorem tyne2 : 58 ≠ 22 := by decide
theorem tyne3 : 32 ≠ 22 := by decide
theorem RPu.grown (h : RPu W w.heap.size x G gc gr S sc sp) (hg : W.grownBy W' (some g)) (hx : g ≠ x) (hb : Blk W g 58 (PUV P)) : RPu W' w.heap.size x G gc gr S sc sp :=
  ⟨h.blk.grown hg (by simpa using Ne.symm hx), h.og.grown hg (fun g' cur hb' he => by injection he with he; subst he; exact Blk.ne_ hb hb' tyne2 rfl), h.os.grown hg (fun g' cur hb' he => by injection he with he; subst he; exact Blk.ne_ hb hb' tyne2 rfl), h.ap⟩
theorem StP.pset (h : StP w g x ob d n P G gc gr S sc sp W) (hp : Pur W' g P') (hg : W.grownBy W' (some g)) (hx : g ≠ x) (ho : g ≠ ob) (hw : w.heap.size ≤ g) : StP w g x ob d n P' G gc gr S sc sp W' :=
  ⟨hp, h.r.grown hg hx h.p, h.k.grown hg (by simpa using Ne.symm ho), below_gb h.b hg hw h.b.size⟩
theorem StP.rset (h : StP w g x ob d n P G gc gr S sc sp W) (hr : RPu W' w.heap.size x G' gc' gr' S' sc' sp') (hk : KeptO W W' x) (hb : Below w.heap.size W W') (hx : g ≠ x) (ho : ob ≠ x) : StP w g x ob d n P G' gc' gr' S' sc' sp' W' :=
  ⟨hk g _ _ tyne2 hx h.p, hr, hk ob _ _ tyne3 ho h.k, h.b.trans hb⟩
end
theorem rpu_grant {w w4 : World} {base x : Nat} {G S A2 : Option Addr} {gc sc c2 : Nat} {gr sp : List Int} {n : Int} {o : Obj} (h : RPu w base x G gc gr S sc sp)
    (hown : OwnV w4 base 22 1 A2 c2 (gr.length + 1) (IV .u64 gr ++ [.int .u64 n])) (hg : (w.alloc o).grownBy w4 (Value.slice G gr.length gc).ownBlock)
    (hrow : (Value.slice A2 (gr.length + 1) c2).ownBlock = (Value.slice G gr.length gc).ownBlock ∨ (Value.slice A2 (gr.length + 1) c2).ownBlock = some (w.alloc o).heap.size) :
    RPu (w4.setCell ⟨x, 0, none⟩ (.slice A2 (gr.length + 1) c2)) base x A2 c2 (gr ++ [n]) S sc sp := by
  have k4 := pu_blk h.blk hg (h.og.other tyne.symm x _ h.blk)
  have e1 : (gr ++ [n]).length = gr.length + 1 := by simp
  have e2 : IV .u64 (gr ++ [n]) = IV .u64 gr ++ [.int .u64 n] := by simp [IV]
  refine ⟨?_, ?_, ?_, ?_⟩
  · rw [e1]; exact Blk.set_ k4 0 _
  · rw [e1, e2]; exact ownV_set hown k4 _ _
  · refine ownV_set ?_ k4 _ _
    exact (h.os.below ((Below.refl _ _).alloc (Nat.le_refl _) o)).apart hg fun k hk he => h.ap k he hk
  · intro k hk he
    rw [e1] at hk
    rcases hrow with hr | hr
    · rw [hr] at hk
      exact h.ap k hk he
    · rw [hr] at hk
      injection hk with hk
      have := h.os.row_lt he
      simp at hk
      omega
structure InvP (k : Nat) (P : PU) (gr sp : List Int) : Prop where
  ok : PuOk P
  li : limF gr = P.li
  su : sumF sp = P.sp
  wg : WF .u64 gr
  ws : ∀ y ∈ sp, 0 ≤ y
  lg : gr.length ≤ k + 1
  ls : sp.length ≤ k

theorem pGrant_2 (p : PU) (n : Int) : (pGrant p n).2 = decide (p.li < topN n) := by
  unfold pGrant
  by_cases h : topN n ≤ p.li
  · rw [if_pos h]; simp; omega
  · rw [if_neg h]; simp; omega

set_option maxRecDepth 100000 in
set_option maxHeartbeats 1600000 in
theorem purses_some (n : Int) (A : Option Addr) (c : Nat) (l : List CreditOp) (w : World) (hn : (Lit.int .u64 n).wf = true) (hr : RdT 2 CreditOpC CreditOpOk w A l) (hlc : l.length ≤ c) (hcm : c ≤ 9223372036854775807) (hA : A = none → c = 0) :
    Calls Try.prog 3 #[.bool false, .int .u64 n, .slice A l.length c] w fun r w' => r = .returned (.bool true) ∧ Below w.heap.size w w' := by
  have HR := Lib.hid hr
  clear hr hA
  obtain ⟨hn0, hn1⟩ := wf_u64 hn
  have hNP := fun W => NewPurse_any n W hn0
  have i0 : InvP 0 (puN n) [n] [] := by
    refine ⟨puN_ok hn0, ?_, rfl, fun y hy => ?_, fun y hy => (by cases hy), Nat.le_refl _, Nat.le_refl _⟩
    · show max 0 (topN n) = topN n
      have := topN_ok hn0
      omega
    · simp at hy; subst hy; exact hn
  generalize puN n = P0 at *
  have I0 := Lib.hid i0
  clear i0
  go_enter Try.func3, Try.ntmps3
  go_wp2_with fail
  refine (awake11_any _).mono ?_
  rintro e w1 ⟨rfl, b1⟩
  go_wp2_with fail
  refine (hNP _).mono ?_
  rintro e w2 ⟨g, rfl, p0, l1, b2⟩
  have hz := b1.size
  have bb := b1.trans (b2.mono hz)
  have hm : w.heap.size ≤ g := by omega
  have hgl := p0.lt
  clear b1 b2 hNP
  go_wp2_with fail
  obtain ⟨w3, hw3⟩ : ∃ w3, w3 = w2.alloc (.cells #[.int .u64 n] 22) := ⟨_, rfl⟩
  have og : OwnV w3 w.heap.size 22 1 (some ⟨w2.heap.size, 0, none⟩) 1 1 [.int .u64 n] := by rw [hw3]; exact own_1 _ _ _ (by omega)
  have p1 : Pur w3 g P0 := by rw [hw3]; exact Blk.alloc p0 _
  have b3 : Below w.heap.size w w3 := by rw [hw3]; exact bb.alloc bb.size _
  have hz3 : w3.heap.size = w2.heap.size + 1 := by rw [hw3]; simp
  obtain ⟨x, hx⟩ : ∃ x, x = w3.heap.size := ⟨_, rfl⟩
  have r0 : RPu (w3.alloc (.cells #[.slice (some ⟨w2.heap.size, 0, none⟩) 1 1, .slice none 0 0] 30)) w.heap.size x (some ⟨w2.heap.size, 0, none⟩) 1 [n] none 0 [] := by
    refine ⟨by rw [hx]; exact Blk.new w3 _ _, og.below ((Below.refl _ _).alloc (Nat.le_refl _) _), OwnV.nil _ _ _ _, fun k hk he => by cases he⟩
  have p1 : Pur (w3.alloc (.cells #[.slice (some ⟨w2.heap.size, 0, none⟩) 1 1, .slice none 0 0] 30)) g P0 := Blk.alloc p1 _
  have bb := b3.alloc b3.size (.cells #[.slice (some ⟨w2.heap.size, 0, none⟩) 1 1, .slice none 0 0] 30)
  have hgx : g ≠ x := by omega
  have hxm : w.heap.size ≤ x := by omega
  try rw [← hw3]
  try rw [← hz3]
  try rw [← hx]
  go_loopw [25] (fun i wr => ∃ (k : Nat) (P : PU) (G : Option Addr) (gc : Nat) (gr : List Int) (S : Option Addr) (sc : Nat) (sp : List Int), k ≤ l.length ∧ i = .int .i64 k ∧ Pur wr g P ∧ Hid (RPu wr w.heap.size x G gc gr S sc sp) ∧ Hid (InvP k P gr sp) ∧ Below w.heap.size w wr) (fun i _ => l.length - (intOf i).toNat)
  case atStart => exact ⟨0, P0, _, _, _, _, _, _, by omega, rfl, p1, Lib.hid r0, I0, bb⟩
  case round =>
    obtain ⟨k, P, G, gc, gr, S, sc, sp, hk, rfl, j1, RR, INV, b1⟩ := hrel
    clear p0 p1 b3 bb og r0 hw3 hz3 hx
    by_cases hlt : k < l.length
    · obtain ⟨b, off, y, rfl, hb, hy, hok, hc⟩ := (HR.out.below b1).at_ hlt
      have q0 := hc 0 (by omega)
      have q1 := hc 1 (by omega)
      clear hc hy
      obtain ⟨d, y⟩ := y
      obtain ⟨w0, w1, _⟩ := hok
      simp [CreditOpC] at q0 q1 w0 w1
      have d0 := wf_u8 w0
      have x0 := wf_u64 w1
      by_cases h60 : k < 40
      · obtain ⟨W, hW⟩ : ∃ W, W = wr.alloc (.cells #[.int .u8 d, .int .u64 y] 32) := ⟨_, rfl⟩
        obtain ⟨ob, hob⟩ : ∃ ob, ob = wr.heap.size := ⟨_, rfl⟩
        have hgo : g ≠ ob := by have := j1.lt; omega
        have hxo : ob ≠ x := by have := RR.out.blk.lt; omega
        have s1 : StP w g x ob d y P G gc gr S sc sp W := by
          rw [hW, hob]
          refine ⟨Blk.alloc j1 _, ⟨RR.out.blk.alloc _, RR.out.og.below ((Below.refl _ _).alloc (Nat.le_refl _) _), RR.out.os.below ((Below.refl _ _).alloc (Nat.le_refl _) _), RR.out.ap⟩, Blk.new wr _ _, b1.alloc b1.size _⟩
        have S1 := Lib.hid s1
        have k0 : W.cell? ⟨ob, 0, none⟩ = some (.int .u8 d) := Blk.cell s1.k 0
        have k1 := s1.k1
        have f1 := Blk.frozen s1.k 1
        clear j1 b1 RR s1
        obtain ⟨ok1, el1, es1, wg1, ws1, lg1, ls1⟩ := INV.out
        rcases (show d % 3 = 0 ∨ (d % 3 = 1 ∨ d % 3 = 2) by omega) with hq | hq
        · have TC := Lib.hid (fun W => Top_any y W x0.1)
          have hT := topN_ok x0.1
          have LC := Lib.hid (rLimit_any x G gc gr _ W S1.out.r.blk S1.out.r.rdG wg1 (by omega))
          rw [el1] at LC
          have ok2 := pGrant_ok (n := y) ok1
          have e2 := pGrant_li P y
          have e3 := pGrant_2 P y
          have el2 : limF (gr ++ [y]) = (pGrant P y).1.li := by rw [limF_snoc, el1, e2.1]
          have es2 : sumF sp = (pGrant P y).1.sp := by rw [e2.2, es1]
          have GC := Grant_any g P y W S1.out.p x0.1 ok1
          rw [e3] at GC
          generalize (pGrant P y).1 = P2 at *
          generalize topN y = T at *
          have HGC := Lib.hid GC
          have EL := Lib.hid el2
          have ES := Lib.hid es2
          have wg2 : WF .u64 (gr ++ [y]) := fun z hz => by
            rcases List.mem_append.1 hz with h | h
            · exact wg1 z h
            · simp at h; subst h; exact w1
          clear GC e2 e3 el2 es2 el1 es1
          go_wp2_with fail
          rw [← hW, ← hob]
          clear hW hob q0 q1
          go_wp2_with fail
          refine (TC.out _).mono ?_
          rintro e w4 ⟨rfl, rfl⟩
          go_wp2_with fail
          refine LC.out.mono ?_
          rintro e w4 ⟨rfl, rfl⟩
          go_wp2_with fail
          refine HGC.out.mono ?_
          rintro e w4 ⟨rfl, p4, g4⟩
          have s4 := S1.out.pset p4 g4 hgx hgo hm
          clear S1 k0 k1 f1 p4 g4 LC
          have k1 := s4.k1
          have c0 := s4.r.blk.cell 0
          have f0 := s4.r.blk.frozen 0
          have z4 := s4.r.blk.lt
          simp at c0
          have S4 := Lib.hid s4
          clear s4
          go_wp2_with fail
          go_region_law (refine step_appV rfl (.tmp 58) (.tmp 61) 28 22 1 8 (.int .u64 0) rfl Try.underlying28 info_u64 rfl (by omega) w.heap.size (n := gr.length) (m := 1) (xs := IV .u64 gr) (news := [.int .u64 y]) (d := 1) rfl rfl ((S4.out.r.drewN 1).og.below ((Below.refl _ _).alloc (Nat.le_refl _) _)) (reads_one (w4.drewN 1) 22 _ 0) (by simp [Value.oneCell']) (by unfold maxLen; omega) (by omega) (by have := S4.out.b.size; simp; omega) ?_; intro A2 c2 w5 hown hg hb hrow; have k5 := pu_blk (S4.out.r.drewN 1).blk hg ((S4.out.r.drewN 1).og.other tyne.symm x _ (S4.out.r.drewN 1).blk); have e5 := k5.cell 0; have f5 := k5.frozen 0; have z5 := k5.lt)
          all_goals (
            have s6 : StP w g x ob d y P2 A2 c2 (gr ++ [y]) S sc sp (w5.setCell ⟨x, 0, none⟩ (.slice A2 (gr.length + 1) c2)) := by
              have s4 := S4.out.drewN 1
              exact s4.rset (rpu_grant s4.r hown hg hrow) (kept_row (x := x) (j := 0) s4.r.og hg) ((((Below.refl _ _).alloc s4.b.size _).trans hb).setCell hxm _) hgx hxo
            obtain ⟨gr2, hgr2⟩ : ∃ gr2, gr2 = gr ++ [y] := ⟨_, rfl⟩
            have el2 : limF gr2 = P2.li := by rw [hgr2]; exact EL.out
            have es2 := ES.out
            have lg2 : gr2.length ≤ k + 2 := by rw [hgr2]; simp; omega
            rw [← hgr2] at s6 wg2
            have ws2 := ws1
            generalize (w5.setCell ⟨x, 0, none⟩ (.slice A2 (gr.length + 1) c2)) = w6 at s6 ⊢
            clear S4 k5 e5 f5 z5 hown hg hb hrow k1 c0 f0 z4 hgr2 EL ES
            go_wp2_with fail
            refine (PTold_any g P2 _ s6.p).mono ?_
            rintro e w7 ⟨rfl, q7, hw7⟩
            have s7 : StP w g x ob d y P2 A2 c2 gr2 S sc sp w7 := by rw [hw7]; exact s6.drewN _
            clear hw7 s6
            have LC := Lib.hid (rLimit_any x A2 c2 gr2 _ w7 s7.r.blk s7.r.rdG wg2 (by omega))
            have SC := Lib.hid (rSpent_any x S sc sp _ w7 s7.r.blk s7.r.rdS ws2 (by omega) (by rw [es2]; unfold PuOk at ok2; omega))
            rw [el2] at LC
            rw [es2] at SC
            have PC := Lib.hid (PLeft_any g P2 w7 s7.p ok2)
            have okk := ok2
            unfold PuOk at okk
            have hwr2 : IntKind.u64.wrap (P2.li - P2.sp) = P2.li - P2.sp := IntWalk.u64_in _ (by omega)
            have hd5 : decide (P2.li < P2.sp) = false := by simp; omega
            have S7 := Lib.hid s7
            have EL := Lib.hid el2
            have ES := Lib.hid es2
            clear s7 okk el2 es2
            go_wp2_with fail
            refine LC.out.mono ?_
            rintro e w8 ⟨rfl, rfl⟩
            go_wp2_with fail
            refine SC.out.mono ?_
            rintro e w8 ⟨rfl, rfl⟩
            go_wp2_with fail
            refine PC.out.mono ?_
            rintro e w8 ⟨rfl, q8, rfl⟩
            go_wp2_with fail
            go_roundw
            case rel => exact ⟨k + 1, P2, A2, c2, gr2, S, sc, sp, by omega, by go_num, S7.out.p.drewN _, Lib.hid (RPu.drewN S7.out.r _), Lib.hid ⟨ok2, EL.out, ES.out, wg2, ws2, by omega, by omega⟩, below_drewN S7.out.b _⟩
            case measure => simp [intOf]; omega)
        · rcases hq with hq | hq
          all_goals (
            have okc := ok1
            unfold PuOk at okc
            have hle : sumF sp ≤ limF gr := by rw [es1, el1]; exact okc.2.1
            by_cases hs : P.li - P.sp < y
            · have e2 : pSpend P y = (P, 12) := if_pos hs
              have GC := fun W (h : StP w g x ob d y P G gc gr S sc sp W) => (PSpend_any g P y W h.p x0.1 ok1).mono (R' := fun r w' => r = .returned (.int .i64 12) ∧ StP w g x ob d y P G gc gr S sc sp w') fun r w' h2 => by rw [e2] at h2; exact ⟨h2.1, h.pset h2.2.1 h2.2.2 hgx hgo hm⟩
              have RC := fun W (h : StP w g x ob d y P G gc gr S sc sp W) => (rSpend_no w.heap.size x G gc gr S sc sp y W h.r wg1 (by omega) ws1 (by omega) hle (by rw [el1, es1]; exact hs)).mono (R' := fun r w' => r = .returned (.int .i64 12) ∧ StP w g x ob d y P G gc gr S sc sp w') fun r w' h2 => ⟨h2.1, by rw [← h2.2]; exact h⟩
              have HGC := Lib.hid GC
              have HRC := Lib.hid RC
              have EL := Lib.hid el1
              have ES := Lib.hid es1
              clear GC RC e2 hle okc el1 es1
              go_wp2_with fail
              rw [← hW, ← hob]
              clear hW hob q0 q1
              go_wp2_with fail
              have s1 : StP w g x ob d y P G gc gr S sc sp W.drew := S1.out.drewN 1
              have k1' := s1.k1
              clear S1 k0 k1 f1
              go_region_with (first
                | (go_at_call 13; (with_reducible refine (HGC.out _ (by assumption)).mono ?_); rintro e w6 ⟨rfl, s6⟩; have k6 := s6.k1)
                | (go_at_call 14; (with_reducible refine (HRC.out _ (by assumption)).mono ?_); rintro e w6 ⟨rfl, s6⟩; have k6 := s6.k1))
              all_goals (
                have ok2 := ok1
                have wg2 := wg1
                have ws2 := ws1
                have el2 := EL.out
                have es2 := ES.out
                clear s1 k1' k6 HGC HRC EL ES
                go_wp2_with fail
                refine (PTold_any g P _ s6.p).mono ?_
                rintro e w7 ⟨rfl, q7, hw7⟩
                have s7 : StP w g x ob d y P G gc gr S sc sp w7 := by rw [hw7]; exact s6.drewN _
                clear hw7 s6
                have LC := Lib.hid (rLimit_any x G gc gr _ w7 s7.r.blk s7.r.rdG wg2 (by omega))
                have SC := Lib.hid (rSpent_any x S sc sp _ w7 s7.r.blk s7.r.rdS ws2 (by omega) (by rw [es2]; unfold PuOk at ok2; omega))
                rw [el2] at LC
                rw [es2] at SC
                have PC := Lib.hid (PLeft_any g P w7 s7.p ok2)
                have okk := ok2
                unfold PuOk at okk
                have hwr2 : IntKind.u64.wrap (P.li - P.sp) = P.li - P.sp := IntWalk.u64_in _ (by omega)
                have hd5 : decide (P.li < P.sp) = false := by simp; omega
                have S7 := Lib.hid s7
                have EL := Lib.hid el2
                have ES := Lib.hid es2
                clear s7 okk el2 es2
                go_wp2_with fail
                refine LC.out.mono ?_
                rintro e w8 ⟨rfl, rfl⟩
                go_wp2_with fail
                refine SC.out.mono ?_
                rintro e w8 ⟨rfl, rfl⟩
                go_wp2_with fail
                refine PC.out.mono ?_
                rintro e w8 ⟨rfl, q8, rfl⟩
                go_wp2_with fail
                go_roundw
                case rel => exact ⟨k + 1, P, G, gc, gr, S, sc, sp, by omega, by go_num, S7.out.p.drewN _, Lib.hid (RPu.drewN S7.out.r _), Lib.hid ⟨ok2, EL.out, ES.out, wg2, ws2, by omega, by omega⟩, below_drewN S7.out.b _⟩
                case measure => simp [intOf]; omega)
            · have e2 : pSpend P y = (⟨P.li, P.sp + y⟩, 0) := if_neg hs
              have ok2 := pSpend_ok ok1 (n := y) x0.1
              rw [e2] at ok2
              simp only at ok2
              obtain ⟨P2, e3⟩ : ∃ P2 : PU, P2 = ⟨P.li, P.sp + y⟩ := ⟨_, rfl⟩
              obtain ⟨sp2, e4⟩ : ∃ sp2, sp2 = sp ++ [y] := ⟨_, rfl⟩
              have GC := fun W S2 sc2 sp3 (h : StP w g x ob d y P G gc gr S2 sc2 sp3 W) => (PSpend_any g P y W h.p x0.1 ok1).mono (R' := fun r w' => r = .returned (.int .i64 0) ∧ StP w g x ob d y P2 G gc gr S2 sc2 sp3 w') fun r w' h2 => by rw [e2] at h2; exact ⟨h2.1, by rw [e3]; exact h.pset h2.2.1 h2.2.2 hgx hgo hm⟩
              have RC := fun W Q (h : StP w g x ob d y Q G gc gr S sc sp W) => (rSpend_yes w.heap.size x G gc gr S sc sp y W h.r wg1 (by omega) ws1 (by omega) hle (by rw [el1, es1]; omega) h.b.size hxm).mono (R' := fun r w' => r = .returned (.int .i64 0) ∧ ∃ S2 sc2, StP w g x ob d y Q G gc gr S2 sc2 sp2 w') fun r w' ⟨h2, ⟨S2, sc2, h3⟩, h4, h5⟩ => ⟨h2, S2, sc2, by rw [e4]; exact h.rset h3 h4 h5 hgx hxo⟩
              have HGC := Lib.hid GC
              have HRC := Lib.hid RC
              have EL := Lib.hid (show limF gr = P2.li by rw [e3]; exact el1)
              have ES := Lib.hid (show sumF sp2 = P2.sp by rw [e3, e4, sumF_snoc, es1])
              have ws2 : ∀ z ∈ sp2, 0 ≤ z := fun z hz => by
                rw [e4] at hz
                rcases List.mem_append.1 hz with h | h
                · exact ws1 z h
                · simp at h; subst h; exact x0.1
              have ls2 : sp2.length ≤ k + 1 := by rw [e4]; simp; omega
              rw [← e3] at ok2
              clear GC RC e2 hle okc el1 es1 e3 e4
              go_wp2_with fail
              rw [← hW, ← hob]
              clear hW hob q0 q1
              go_wp2_with fail
              have s1 : StP w g x ob d y P G gc gr S sc sp W.drew := S1.out.drewN 1
              have k1' := s1.k1
              clear S1 k0 k1 f1
              go_region_with (first
                | (go_at_call 13; (with_reducible refine (HGC.out _ _ _ _ (by assumption)).mono ?_); rintro e w6 ⟨rfl, s6⟩; have k6 := s6.k1)
                | (go_at_call 14; (with_reducible refine (HRC.out _ _ (by assumption)).mono ?_); rintro e w6 ⟨rfl, S2, sc2, s6⟩; have k6 := s6.k1))
              all_goals (
                rename StP w g x ob d y P2 G gc gr _ _ sp2 _ => s6
                have wg2 := wg1
                have el2 := EL.out
                have es2 := ES.out
                clear s1 k1' k6 HGC HRC EL ES
                go_wp2_with fail
                refine (PTold_any g P2 _ s6.p).mono ?_
                rintro e w7 ⟨rfl, q7, hw7⟩
                have s7 : StP w g x ob d y P2 G gc gr S2 sc2 sp2 w7 := by rw [hw7]; exact s6.drewN _
                clear hw7 s6
                have LC := Lib.hid (rLimit_any x G gc gr _ w7 s7.r.blk s7.r.rdG wg2 (by omega))
                have SC := Lib.hid (rSpent_any x S2 sc2 sp2 _ w7 s7.r.blk s7.r.rdS ws2 (by omega) (by rw [es2]; unfold PuOk at ok2; omega))
                rw [el2] at LC
                rw [es2] at SC
                have PC := Lib.hid (PLeft_any g P2 w7 s7.p ok2)
                have okk := ok2
                unfold PuOk at okk
                have hwr2 : IntKind.u64.wrap (P2.li - P2.sp) = P2.li - P2.sp := IntWalk.u64_in _ (by omega)
                have hd5 : decide (P2.li < P2.sp) = false := by simp; omega
                have S7 := Lib.hid s7
                have EL := Lib.hid el2
                have ES := Lib.hid es2
                clear s7 okk el2 es2
                go_wp2_with fail
                refine LC.out.mono ?_
                rintro e w8 ⟨rfl, rfl⟩
                go_wp2_with fail
                refine SC.out.mono ?_
                rintro e w8 ⟨rfl, rfl⟩
                go_wp2_with fail
                refine PC.out.mono ?_
                rintro e w8 ⟨rfl, q8, rfl⟩
                go_wp2_with fail
                go_roundw
                case rel => exact ⟨k + 1, P2, G, gc, gr, S2, sc2, sp2, by omega, by go_num, S7.out.p.drewN _, Lib.hid (RPu.drewN S7.out.r _), Lib.hid ⟨ok2, EL.out, ES.out, wg2, ws2, by omega, by omega⟩, below_drewN S7.out.b _⟩
                case measure => simp [intOf]; omega))
      · have h61 : (40 : Int) ≤ k := by omega
        go_wp2_with fail
        go_ret
        exact ⟨rfl, b1.alloc b1.size _⟩
    · have hd : decide (k < l.length) = false := by simpa using hlt
      go_wp2_with fail
      go_ret
      exact ⟨rfl, b1⟩
end Go.Proofs.Ytgddlamfjjdlfaa
