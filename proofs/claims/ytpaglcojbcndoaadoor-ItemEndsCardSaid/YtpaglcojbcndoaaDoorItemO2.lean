/-
  The item reader's begin, for every input (made by mkItemO.py).
-/
import Derived.Test.YtpaglcojbcndoaaDoorItemO
namespace Go.Proofs.YtpaglcojbcndoaaDoor
open Go.RowKit
set_option linter.unusedVariables false
set_option linter.unusedSimpArgs false
set_option maxHeartbeats 3200000 in
set_option maxRecDepth 100000 in
theorem begin_16 (gr G gp g B : Nat) (p q1 : List Int) (s : IRd) (A : Option Addr) (c : Nat) (w : World) (hG : gr ≠ G) (hp : PrsO G w gp g B p 2) (hr : RB w gr s A c) (hpn : pnum p = some (16, q1)) :
    Calls Tryd.prog 39 #[.pointer (some ⟨gr, 0, none⟩), .pointer (some ⟨gp, 0, none⟩)] w fun r w' => BeginTo w w' gr G gp g B p s A c r := by
  obtain ⟨P9, hP9⟩ : ∃ P9 : World → Ending → Prop, P9 = fun w' r => BeginTo w w' gr G gp g B p s A c r := ⟨_, rfl⟩
  have HP := Lib.hid hP9
  rw [show (fun r w' => BeginTo w w' gr G gp g B p s A c r) = fun r w' => P9 w' r by rw [hP9]]
  have HNE := Lib.hid (hr.ne_g hp.rd)
  have HNP := Lib.hid (show gr ≠ gp from hr.ne_ hp.pb (by decide))
  have HR := Lib.hid hr
  have HGG := Lib.hid hG
  have zr := hr.lt
  have fr := fun i => hr.frozen i
  obtain ⟨W, hW⟩ : ∃ W, W = w.alloc (.cells #[.bool false, .int .u64 0, .int .u64 0, .int .u8 0] 53) := ⟨_, rfl⟩
  obtain ⟨gm, hgm⟩ : ∃ gm, gm = w.heap.size := ⟨_, rfl⟩
  have bw : Below w.heap.size w W := by rw [hW]; exact (Below.refl _ _).alloc (Nat.le_refl _) _
  have hgl := hp.rd.lt
  have hgpl := hp.pb.lt
  have hBg := hp.rd.le
  have S0 := Lib.hid (show BStep w W G gp g B gm p #[.bool false, .int .u64 0, .int .u64 0, .int .u8 0] from
    ⟨hp.below bw, by rw [hW, hgm]; exact Blk.new _ _ _, Frm.of_below bw, by omega, by omega, by omega, by omega⟩)
  have FIN : ∀ wi q f id gi pi, BStep w wi G gp g B gm q #[.bool f, .int .u64 id, .int .u64 gi, .int .u8 pi] → pBegin p = .ok (⟨f, id, gi, pi⟩, q) → BeginTo w ((wi.setCells gr 0 [.bool f, .int .u64 id, .int .u64 gi, .int .u8 pi]).setCell ⟨gr, 4, none⟩ (.bool true)) gr G gp g B p s A c (.returned (.tuple #[])) := fun wi q f id gi pi st he =>
    ⟨fun h' q' hq => (by
      rw [he] at hq
      injection hq with hq
      injection hq with e1 e2
      subst e1 e2
      exact ⟨rfl, st.p.put4 HGG.out HNE.out HNP.out _ _ _ _ _, RB.put4 (st.f.keep HR.out HNE.out) f id gi pi⟩), fun e hq => (by rw [he] at hq; cases hq), st.f.put4 _ _ _ _ _⟩
  have HFIN := Lib.hid FIN
  have HW := Lib.hid hW
  have HG := Lib.hid hgm
  clear hG hp hr bw hW hgm hP9 FIN hgl hgpl hBg
  have H1 := Lib.hid hpn
  have N := Lib.hid (WNumO_ok S0.out.p hpn)
  clear hpn
  go_enter Tryd.func39, Tryd.ntmps39
  go_upto_region 1 with (fail)
  rw [← HW.out, ← HG.out]
  go_wp2_with fail
  refine N.out.mono ?_
  rintro e w1 ⟨rfl, hpq, gg⟩
  have S1 := Lib.hid (S0.out.call hpq gg)
  clear hpq gg N S0 HW HG
  have N := Lib.hid (PMust_okO S1.out.p)
  go_wp2_with fail
  refine N.out.mono ?_
  rintro e w2 ⟨rfl, hpq, gg⟩
  have S2 := Lib.hid (S1.out.call hpq gg)
  clear hpq gg N S1
  have zk := S2.out.k.lt
  have fk := fun i => S2.out.k.frozen i
  have kk := S2.out.k.cell 0
  simp only [List.getElem?_toArray, List.getElem?_cons_zero, List.getElem?_cons_succ] at kk
  obtain ⟨w3, hw⟩ : ∃ v, v = w2.setCell ⟨gm, 0, none⟩ (.bool false) := ⟨_, rfl⟩
  have S3 := Lib.hid (show BStep w w3 G gp g B gm q1 #[.bool false, .int .u64 0, .int .u64 0, .int .u8 0] by rw [hw]; exact S2.out.put 0 (.bool false))
  cases hpn : pnum q1 with
  | none =>
    have HPB := Lib.hid (show pBegin p = .error 2 by unfold pBegin; rw [H1.out]; simp only [show ¬ (16 : Int) = 5 by decide, if_true, if_false]; rw [hpn])
    have N := Lib.hid (WNumO_no S3.out.p hpn)
    clear hpn
    go_upto_region 4 with (fail)
    rw [← hw]
    clear hw zk fk kk
    go_wp2_with fail
    refine N.out.mono ?_
    rintro e wx ⟨rfl, gx⟩
    refine ⟨rfl, ?_⟩
    show P9 _ _
    rw [HP.out]
    exact BeginTo.bad HPB.out (S3.out.fail gx) HR.out HNE.out
  | some r2 =>
    obtain ⟨id, q2⟩ := r2
    have H2 := Lib.hid hpn
    have N := Lib.hid (WNumO_ok S3.out.p hpn)
    clear hpn
    go_upto_region 4 with (fail)
    rw [← hw]
    clear hw zk fk kk
    go_wp2_with fail
    refine N.out.mono ?_
    rintro e w4 ⟨rfl, hpq, gg⟩
    have S4 := Lib.hid (S3.out.call hpq gg)
    clear hpq gg N S3
    have zk := S4.out.k.lt
    have fk := fun i => S4.out.k.frozen i
    have kk := S4.out.k.cell 1
    simp only [List.getElem?_toArray, List.getElem?_cons_zero, List.getElem?_cons_succ] at kk
    obtain ⟨w5, hw⟩ : ∃ v, v = w4.setCell ⟨gm, 1, none⟩ (.int .u64 id) := ⟨_, rfl⟩
    have S5 := Lib.hid (show BStep w w5 G gp g B gm q2 #[.bool false, .int .u64 id, .int .u64 0, .int .u8 0] by rw [hw]; exact S4.out.put 1 (.int .u64 id))
    go_upto_region 5 with (fail)
    rw [← hw]
    clear hw zk fk kk
    have zk := S5.out.k.lt
    have k0 := S5.out.k.cell 0
    simp only [List.getElem?_toArray, List.getElem?_cons_zero, List.getElem?_cons_succ] at k0
    cases hpn : pnum q2 with
    | none =>
      have HPB := Lib.hid (show pBegin p = .error 2 by unfold pBegin; rw [H1.out]; simp only [show ¬ (16 : Int) = 5 by decide, if_true, if_false]; rw [H2.out]; simp only; rw [hpn])
      have N := Lib.hid (WNumO_no S5.out.p hpn)
      clear hpn
      go_wp2_with fail
      refine N.out.mono ?_
      rintro e wx ⟨rfl, gx⟩
      refine ⟨rfl, ?_⟩
      show P9 _ _
      rw [HP.out]
      exact BeginTo.bad HPB.out (S5.out.fail gx) HR.out HNE.out
    | some r3 =>
      obtain ⟨gi, q3⟩ := r3
      have H3 := Lib.hid hpn
      have N := Lib.hid (WNumO_ok S5.out.p hpn)
      clear hpn
      go_wp2_with fail
      refine N.out.mono ?_
      rintro e w6 ⟨rfl, hpq, gg⟩
      have S6 := Lib.hid (S5.out.call hpq gg)
      clear hpq gg N S5
      clear k0 zk
      have zk := S6.out.k.lt
      have fk := fun i => S6.out.k.frozen i
      have kk := S6.out.k.cell 2
      simp only [List.getElem?_toArray, List.getElem?_cons_zero, List.getElem?_cons_succ] at kk
      obtain ⟨w7, hw⟩ : ∃ v, v = w6.setCell ⟨gm, 2, none⟩ (.int .u64 gi) := ⟨_, rfl⟩
      have S7 := Lib.hid (show BStep w w7 G gp g B gm q3 #[.bool false, .int .u64 id, .int .u64 gi, .int .u8 0] by rw [hw]; exact S6.out.put 2 (.int .u64 gi))
      rcases q3 with _ | ⟨x, q4⟩
      · have HPB := Lib.hid (show pBegin p = .error 2 by unfold pBegin; rw [H1.out]; simp only [show ¬ (16 : Int) = 5 by decide, if_true, if_false]; rw [H2.out]; simp only; rw [H3.out])
        have N := Lib.hid (PByte_noO S7.out.p)
        go_upto_region 7 with (fail)
        rw [← hw]
        clear hw zk fk kk
        go_wp2_with fail
        refine N.out.mono ?_
        rintro e wx ⟨rfl, gx⟩
        refine ⟨rfl, ?_⟩
        show P9 _ _
        rw [HP.out]
        exact BeginTo.bad HPB.out (S7.out.fail gx) HR.out HNE.out
      · have HPB := Lib.hid (show pBegin p = .ok (⟨false, id, gi, x⟩, q4) by unfold pBegin; rw [H1.out]; simp only [show ¬ (16 : Int) = 5 by decide, if_true, if_false]; rw [H2.out]; simp only; rw [H3.out])
        have N := Lib.hid (PByte_okO S7.out.p)
        go_upto_region 7 with (fail)
        rw [← hw]
        clear hw zk fk kk
        go_wp2_with fail
        refine N.out.mono ?_
        rintro e w8 ⟨rfl, hpq, gg⟩
        have S8 := Lib.hid (S7.out.call hpq gg)
        clear hpq gg N S7
        have zk := S8.out.k.lt
        have fk := fun i => S8.out.k.frozen i
        have kk := S8.out.k.cell 3
        simp only [List.getElem?_toArray, List.getElem?_cons_zero, List.getElem?_cons_succ] at kk
        obtain ⟨w9, hw⟩ : ∃ v, v = w8.setCell ⟨gm, 3, none⟩ (.int .u8 x) := ⟨_, rfl⟩
        have S9 := Lib.hid (show BStep w w9 G gp g B gm q4 #[.bool false, .int .u64 id, .int .u64 gi, .int .u8 x] by rw [hw]; exact S8.out.put 3 (.int .u8 x))
        go_upto_region 8 with (fail)
        rw [← hw]
        clear hw zk fk kk
        have zk := S9.out.k.lt
        have RT := Lib.hid (RB.there _ _ _ _ _ (S9.out.f.keep HR.out HNE.out))
        have hc4 : ((w9.setCells gr 0 [.bool false, .int .u64 id, .int .u64 gi, .int .u8 x]).cell? ⟨gr, 4, none⟩).isSome = true := by
          apply World.isSome_setCells
          rw [(S9.out.f.keep HR.out HNE.out).cell]; rfl
        obtain ⟨v4, hv4⟩ := Option.isSome_iff_exists.1 hc4
        have hf4 : (w9.setCells gr 0 [.bool false, .int .u64 id, .int .u64 gi, .int .u8 x]).frozen? ⟨gr, 4, none⟩ = false := by
          rw [World.frozen?_setCells]; exact (S9.out.f.keep HR.out HNE.out).frozen 4
        go_wp2_with (first
          | refine wpList_load_row rfl 53 (.tmp 4) rfl gm rfl 53 _ (0, 0) _ S9.out.k Tryd.underlying53 rfl (by kernel_rfl) ?_
          | refine wpList_store_mid rfl 53 (.tmp 35) (.tmp 33) rfl gr 0 _ rfl rfl RT.out (by kernel_rfl) (by simp [Value.oneCell']) ?_)
        refine bodyPost_end (v := .tuple #[]) (results_none (by rfl) _ _ _) (by rfl) ?_
        show P9 _ _
        rw [HP.out]
        exact HFIN.out _ _ _ _ _ _ S9.out HPB.out
theorem begin_any (gr G gp g B : Nat) (p : List Int) (s : IRd) (A : Option Addr) (c : Nat) (w : World) (hG : gr ≠ G) (hp : PrsO G w gp g B p 2) (hr : RB w gr s A c) :
    Calls Tryd.prog 39 #[.pointer (some ⟨gr, 0, none⟩), .pointer (some ⟨gp, 0, none⟩)] w fun r w' => BeginTo w w' gr G gp g B p s A c r := by
  cases hpn : pnum p with
  | none => exact begin_none gr G gp g B p s A c w hG hp hr hpn
  | some r1 =>
    obtain ⟨m, q1⟩ := r1
    by_cases h5 : m = 5
    · subst h5; exact begin_5 gr G gp g B p q1 s A c w hG hp hr hpn
    · by_cases h16 : m = 16
      · subst h16; exact begin_16 gr G gp g B p q1 s A c w hG hp hr hpn
      · exact begin_bad gr G gp g B p q1 s A c w hG hp hr m h5 h16 hpn
end Go.Proofs.YtpaglcojbcndoaaDoor
