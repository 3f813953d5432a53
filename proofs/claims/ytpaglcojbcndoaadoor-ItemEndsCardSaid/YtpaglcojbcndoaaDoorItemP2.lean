/-
  The item reader's object, for every input (made by mkItemP2.py).
-/
import Derived.Test.YtpaglcojbcndoaaDoorItemP
namespace Go.Proofs.YtpaglcojbcndoaaDoor
open Go.RowKit
set_option linter.unusedVariables false
set_option linter.unusedSimpArgs false
theorem OMid.below {w wi wj : World} {G gp g B gm : Nat} {p : List Int} {s : IRd} {grp obj prio : Int} {q : List Int} (h : OMid w wi G gp g B gm p s grp obj prio q) (b : Below wi.heap.size wi wj) : OMid w wj G gp g B gm p s grp obj prio q := ⟨h.st.below b, h.e⟩
theorem OMid.drew {w wi : World} {G gp g B gm : Nat} {p : List Int} {s : IRd} {grp obj prio : Int} {q : List Int} (h : OMid w wi G gp g B gm p s grp obj prio q) : OMid w wi.drew G gp g B gm p s grp obj prio q := h.below (Below.refl _ _).drew
theorem OMid.call {w wi wj : World} {G gp g B gm : Nat} {p : List Int} {s : IRd} {grp obj prio : Int} {q : List Int} (h : OMid w wi G gp g B gm p s grp obj prio q) (hp : PrsO G wj gp g B q 2) (gg : wi.grownBy wj (some g)) : OMid w wj G gp g B gm p s grp obj prio q := ⟨h.st.call hp gg, h.e⟩
theorem range2 {w : World} {gr : Nat} {s : IRd} {A : Option Addr} {c : Nat} (h : RB w gr s A c) : w.rangeAt gr 5 [.int .u64 s.lg, .int .u64 s.lo] := fun j v hj => by
  rw [h.cell]
  match j, hj with
  | 0, hj => simpa [irdC] using hj
  | 1, hj => simpa [irdC] using hj
  | j + 2, hj => simp at hj
theorem range2o {w : World} {gm : Nat} {a b c : Int} (h : Blk w gm 27 (objC a b c)) : w.rangeAt gm 0 [.int .u64 a, .int .u64 b] := fun j v hj => by
  rw [h.cell]
  match j, hj with
  | 0, hj => simpa [objC] using hj
  | 1, hj => simpa [objC] using hj
  | j + 2, hj => simp at hj
theorem range2v {w : World} {gm : Nat} {o : OV} {A : Option Addr} {c : Nat} (h : Blk w gm 27 (ovC o A c)) : w.rangeAt gm 0 [.int .u64 o.grp, .int .u64 o.obj] := fun j v hj => by
  rw [h.cell]
  match j, hj with
  | 0, hj => simpa [ovC] using hj
  | 1, hj => simpa [ovC] using hj
  | j + 2, hj => simp at hj
set_option maxHeartbeats 6400000 in
set_option maxRecDepth 100000 in
theorem object_any (gr G gp g B : Nat) (p : List Int) (s : IRd) (A : Option Addr) (c : Nat) (w : World) (hG : gr ≠ G) (hp : PrsO G w gp g B p 2) (hr : RB w gr s A c) :
    Calls Tryd.prog 38 #[.pointer (some ⟨gr, 0, none⟩), .pointer (some ⟨gp, 0, none⟩)] w fun r w' => ObjTo w w' gr G gp g B p s A c r := by
  obtain ⟨P9, hP9⟩ : ∃ P9 : World → Ending → Prop, P9 = fun w' r => ObjTo w w' gr G gp g B p s A c r := ⟨_, rfl⟩
  have HP := Lib.hid hP9
  rw [show (fun r w' => ObjTo w w' gr G gp g B p s A c r) = fun r w' => P9 w' r by rw [hP9]]
  obtain ⟨⟨fe, hid, hgr, hpr⟩, bg, lg, lo, sm, ov, held⟩ := s
  have HNE := Lib.hid (hr.ne_g hp.rd)
  have HNP := Lib.hid (show gr ≠ gp from hr.ne_ hp.pb (by decide))
  have HR := Lib.hid hr
  have HGG := Lib.hid hG
  obtain ⟨W, hW⟩ : ∃ W, W = (w.alloc (.cells zeroO 27)).alloc (.cells zeroO 27) := ⟨_, rfl⟩
  obtain ⟨gm, hgm⟩ : ∃ gm, gm = w.heap.size + 1 := ⟨_, rfl⟩
  have bw : Below w.heap.size w W := by rw [hW]; exact ((Below.refl _ _).alloc (Nat.le_refl _) _).alloc (by simp) _
  have hgl := hp.rd.lt
  have hgpl := hp.pb.lt
  have hBg := hp.rd.le
  have S0 := Lib.hid (show OStep w W G gp g B gm p (objC 0 0 0) from
    ⟨hp.below bw, by rw [hW]; exact (Blk.new _ _ _).alloc _, by rw [hW, hgm]; have := Blk.new (w.alloc (.cells zeroO 27)) 27 zeroO; exact (show Blk _ (w.heap.size + 1) _ zeroO by simpa using this), Frm.of_below bw, hgm, by omega, by omega, by omega⟩)
  unfold zeroO at hW
  have HW := Lib.hid hW
  have HG := Lib.hid hgm
  clear hG hp hr bw hW hgm hP9 hgl hgpl hBg
  have rk := S0.out.f.keep HR.out HNE.out
  have rz := rk.lt
  have rf := fun i => rk.frozen i
  have r0 := rk.cell 0
  simp only [irdC, List.getElem?_toArray, List.getElem?_cons_zero, List.getElem?_cons_succ] at r0
  go_enter Tryd.func38, Tryd.ntmps38
  go_upto_region 2 with (fail)
  rw [← HW.out]
  first | rw [← HG.out] | skip
  go_upto_if 10 with (fail)
  clear rk rz rf r0
  go_cut [] (fun wx => ∃ (grp obj prio : Int) (q : List Int), Hid (OMid w wx G gp g B gm p ⟨⟨fe, hid, hgr, hpr⟩, bg, lg, lo, sm, ov, held⟩ grp obj prio q))
  case first =>
    cases fe with
    | true =>
      cases hpn : pnum p with
      | none =>
        have HPB := Lib.hid (show pObj ⟨⟨true, hid, hgr, hpr⟩, bg, lg, lo, sm, ov, held⟩ p = .error 2 by unfold pObj; simp only [if_true]; rw [hpn])
        have N := Lib.hid (WNumO_no S0.out.p hpn)
        clear hpn
        go_wp2_with fail
        refine N.out.mono ?_
        rintro e wx ⟨rfl, gx⟩
        refine ⟨rfl, ?_⟩
        show P9 _ _
        rw [HP.out]
        exact ObjTo.bad HPB.out (S0.out.fail gx) HR.out HNE.out
      | some r1 =>
        obtain ⟨grp, q1⟩ := r1
        have H1 := Lib.hid hpn
        have N := Lib.hid (WNumO_ok S0.out.p hpn)
        clear hpn
        go_wp2_with fail
        refine N.out.mono ?_
        rintro e w1 ⟨rfl, hpq, gg⟩
        have S1 := Lib.hid (S0.out.call hpq gg)
        clear hpq gg N S0
        have zk := S1.out.k.lt
        have fk := fun i => S1.out.k.frozen i
        have kk := S1.out.k.cell 0
        simp only [objC, List.getElem?_toArray, List.getElem?_cons_zero, List.getElem?_cons_succ] at kk
        obtain ⟨w2, hw⟩ : ∃ v, v = w1.setCell ⟨gm, 0, none⟩ (.int .u64 grp) := ⟨_, rfl⟩
        have S2 := Lib.hid (show OStep w w2 G gp g B gm q1 (objC grp 0 0) by rw [hw]; exact S1.out.put 0 (.int .u64 grp))
        cases hpn : pnum q1 with
        | none =>
          have HPB := Lib.hid (show pObj ⟨⟨true, hid, hgr, hpr⟩, bg, lg, lo, sm, ov, held⟩ p = .error 2 by unfold pObj; simp only [if_true]; rw [H1.out]; simp only; rw [hpn])
          have N := Lib.hid (WNumO_no S2.out.p hpn)
          clear hpn
          go_upto_region 4 with (fail)
          rw [← hw]
          clear hw zk fk kk
          go_wp2_with fail
          refine N.out.mono ?_
          rintro e wx ⟨rfl, gx⟩
          refine ⟨rfl, ?_⟩
          show P9 _ _
          rw [HP.out]
          exact ObjTo.bad HPB.out (S2.out.fail gx) HR.out HNE.out
        | some r2 =>
          obtain ⟨obj, q2⟩ := r2
          have H2 := Lib.hid hpn
          have N := Lib.hid (WNumO_ok S2.out.p hpn)
          clear hpn
          go_upto_region 4 with (fail)
          rw [← hw]
          clear hw zk fk kk
          go_wp2_with fail
          refine N.out.mono ?_
          rintro e w3 ⟨rfl, hpq, gg⟩
          have S3 := Lib.hid (S2.out.call hpq gg)
          clear hpq gg N S2
          have zk := S3.out.k.lt
          have fk := fun i => S3.out.k.frozen i
          have kk := S3.out.k.cell 1
          simp only [objC, List.getElem?_toArray, List.getElem?_cons_zero, List.getElem?_cons_succ] at kk
          obtain ⟨w4, hw⟩ : ∃ v, v = w3.setCell ⟨gm, 1, none⟩ (.int .u64 obj) := ⟨_, rfl⟩
          have S4 := Lib.hid (show OStep w w4 G gp g B gm q2 (objC grp obj 0) by rw [hw]; exact S3.out.put 1 (.int .u64 obj))
          rcases q2 with _ | ⟨x, q3⟩
          · have HPB := Lib.hid (show pObj ⟨⟨true, hid, hgr, hpr⟩, bg, lg, lo, sm, ov, held⟩ p = .error 2 by unfold pObj; simp only [if_true]; rw [H1.out]; simp only; rw [H2.out])
            have N := Lib.hid (PByte_noO S4.out.p)
            go_upto_region 5 with (fail)
            rw [← hw]
            clear hw zk fk kk
            go_wp2_with fail
            refine N.out.mono ?_
            rintro e wx ⟨rfl, gx⟩
            refine ⟨rfl, ?_⟩
            show P9 _ _
            rw [HP.out]
            exact ObjTo.bad HPB.out (S4.out.fail gx) HR.out HNE.out
          · have HPB := Lib.hid (show pObj ⟨⟨true, hid, hgr, hpr⟩, bg, lg, lo, sm, ov, held⟩ p = pTail ⟨⟨true, hid, hgr, hpr⟩, bg, lg, lo, sm, ov, held⟩ grp obj x q3 by unfold pObj; simp only [if_true]; rw [H1.out]; simp only; rw [H2.out])
            have N := Lib.hid (PByte_okO S4.out.p)
            go_upto_region 5 with (fail)
            rw [← hw]
            clear hw zk fk kk
            go_wp2_with fail
            refine N.out.mono ?_
            rintro e w5 ⟨rfl, hpq, gg⟩
            have S5 := Lib.hid (S4.out.call hpq gg)
            clear hpq gg N S4
            have zk := S5.out.k.lt
            have fk := fun i => S5.out.k.frozen i
            have kk := S5.out.k.cell 2
            simp only [objC, List.getElem?_toArray, List.getElem?_cons_zero, List.getElem?_cons_succ] at kk
            obtain ⟨w6, hw⟩ : ∃ v, v = w5.setCell ⟨gm, 2, none⟩ (.int .u8 x) := ⟨_, rfl⟩
            have S6 := Lib.hid (show OStep w w6 G gp g B gm q3 (objC grp obj x) by rw [hw]; exact S5.out.put 2 (.int .u8 x))
            go_wp2_with fail
            rw [← hw]
            clear hw zk fk kk
            go_meet
            exact ⟨_, _, _, _, Lib.hid ⟨S6.out, HPB.out⟩⟩
    | false =>
      have rk := S0.out.f.keep HR.out HNE.out
      have rz := rk.lt
      have rf := fun i => rk.frozen i
      have r2 := rk.cell 2
      have r3 := rk.cell 3
      simp only [irdC, List.getElem?_toArray, List.getElem?_cons_zero, List.getElem?_cons_succ] at r2 r3
      have zk := S0.out.k.lt
      have fk := fun i => S0.out.k.frozen i
      have kk := S0.out.k.cell 0
      simp only [objC, List.getElem?_toArray, List.getElem?_cons_zero, List.getElem?_cons_succ] at kk
      obtain ⟨w1, hw⟩ : ∃ v, v = W.setCell ⟨gm, 0, none⟩ (.int .u64 hgr) := ⟨_, rfl⟩
      have S1 := Lib.hid (show OStep w w1 G gp g B gm p (objC hgr 0 0) by rw [hw]; exact S0.out.put 0 (.int .u64 hgr))
      cases hpn : pnum p with
      | none =>
        have HPB := Lib.hid (show pObj ⟨⟨false, hid, hgr, hpr⟩, bg, lg, lo, sm, ov, held⟩ p = .error 2 by unfold pObj; simp only [Bool.false_eq_true, if_false]; rw [hpn])
        have N := Lib.hid (WNumO_no S1.out.p hpn)
        clear hpn
        go_upto_region 7 with (fail)
        rw [← hw]
        clear hw zk fk kk
        go_wp2_with fail
        refine N.out.mono ?_
        rintro e wx ⟨rfl, gx⟩
        refine ⟨rfl, ?_⟩
        show P9 _ _
        rw [HP.out]
        exact ObjTo.bad HPB.out (S1.out.fail gx) HR.out HNE.out
      | some r1 =>
        obtain ⟨obj, q1⟩ := r1
        have H1 := Lib.hid hpn
        have N := Lib.hid (WNumO_ok S1.out.p hpn)
        clear hpn
        go_upto_region 7 with (fail)
        rw [← hw]
        clear hw zk fk kk
        clear rk rz rf r2 r3
        go_wp2_with fail
        refine N.out.mono ?_
        rintro e w2 ⟨rfl, hpq, gg⟩
        have S2 := Lib.hid (S1.out.call hpq gg)
        clear hpq gg N S1
        have zk := S2.out.k.lt
        have fk := fun i => S2.out.k.frozen i
        have kk := S2.out.k.cell 1
        simp only [objC, List.getElem?_toArray, List.getElem?_cons_zero, List.getElem?_cons_succ] at kk
        obtain ⟨w3, hw⟩ : ∃ v, v = w2.setCell ⟨gm, 1, none⟩ (.int .u64 obj) := ⟨_, rfl⟩
        have S3 := Lib.hid (show OStep w w3 G gp g B gm q1 (objC hgr obj 0) by rw [hw]; exact S2.out.put 1 (.int .u64 obj))
        go_upto_region 8 with (fail)
        rw [← hw]
        clear hw zk fk kk
        have rk := S3.out.f.keep HR.out HNE.out
        have rz := rk.lt
        have rf := fun i => rk.frozen i
        have r2 := rk.cell 2
        have r3 := rk.cell 3
        simp only [irdC, List.getElem?_toArray, List.getElem?_cons_zero, List.getElem?_cons_succ] at r2 r3
        have zk := S3.out.k.lt
        have fk := fun i => S3.out.k.frozen i
        have kk := S3.out.k.cell 2
        simp only [objC, List.getElem?_toArray, List.getElem?_cons_zero, List.getElem?_cons_succ] at kk
        obtain ⟨w4, hw⟩ : ∃ v, v = w3.setCell ⟨gm, 2, none⟩ (.int .u8 hpr) := ⟨_, rfl⟩
        have S4 := Lib.hid (show OStep w w4 G gp g B gm q1 (objC hgr obj hpr) by rw [hw]; exact S3.out.put 2 (.int .u8 hpr))
        have HPB := Lib.hid (show pObj ⟨⟨false, hid, hgr, hpr⟩, bg, lg, lo, sm, ov, held⟩ p = pTail ⟨⟨false, hid, hgr, hpr⟩, bg, lg, lo, sm, ov, held⟩ hgr obj hpr q1 by unfold pObj; simp only [Bool.false_eq_true, if_false]; rw [H1.out])
        go_wp2_with fail
        rw [← hw]
        clear hw zk fk kk rk rz rf r2 r3
        go_meet
        exact ⟨_, _, _, _, Lib.hid ⟨S4.out, HPB.out⟩⟩
  case rest =>
    obtain ⟨grp, obj, prio, q, M1⟩ := hcut
    rename World => w1
    clear S0
    go_upto_region 9 with (fail)
    go_cut [] (fun wx => Hid (OMid w wx G gp g B gm p ⟨⟨fe, hid, hgr, hpr⟩, bg, lg, lo, sm, ov, held⟩ grp obj prio q ∧ (!sm || lessI lg lo grp obj) = true))
    case first =>
      cases sm with
      | false =>
        have HLS := Lib.hid (show (!false || lessI lg lo grp obj) = true by rfl)
        refine wp_region_held_drew (S := fun wv => OMid w wv G gp g B gm p ⟨⟨fe, hid, hgr, hpr⟩, bg, lg, lo, false, ov, held⟩ grp obj prio q) (by kernel_rfl) (OMid.drew M1.out) (fun s0 => ?_)
        refine wpAnyH_take (i := 0) (oi := ⟨_, _, _, _, _, _⟩) (v := .pointer (some ⟨gp, 0, none⟩)) rfl (by kernel_rfl) (by kernel_rfl) (by kernel_rfl) (fun _ _ _ h => h) (Or.inl ⟨by rfl, fun w' hS => by go_simp⟩) s0 ?_
        simp only [List.getElem_toArray, List.getElem_cons_succ, List.getElem_cons_zero, Act.put, List.setIfInBounds_toArray, List.set_cons_zero, List.set_cons_succ]
        refine wpAnyH_take (i := 1) (oi := ⟨_, _, _, _, _, _⟩) (v := .pointer (some ⟨gr, 0, none⟩)) rfl (by kernel_rfl) (by kernel_rfl) (by kernel_rfl) (fun _ _ _ h => h) (Or.inl ⟨by rfl, fun w' hS => by go_simp⟩) s0 ?_
        simp only [List.getElem_toArray, List.getElem_cons_succ, List.getElem_cons_zero, Act.put, List.setIfInBounds_toArray, List.set_cons_zero, List.set_cons_succ]
        refine wpAnyH_take (i := 2) (oi := ⟨_, _, _, _, _, _⟩) (v := .pointer (some ⟨gr, 0, none⟩)) rfl (by kernel_rfl) (by kernel_rfl) (by kernel_rfl) (fun _ _ _ h => h) (Or.inl ⟨by rfl, fun w' hS => by go_simp⟩) s0 ?_
        simp only [List.getElem_toArray, List.getElem_cons_succ, List.getElem_cons_zero, Act.put, List.setIfInBounds_toArray, List.set_cons_zero, List.set_cons_succ]
        refine wpAnyH_take (i := 3) (oi := ⟨_, _, _, _, _, _⟩) (v := .pointer (some ⟨gr, 7, none⟩)) rfl (by kernel_rfl) (by kernel_rfl) (by kernel_rfl) (fun _ _ _ h => h) (Or.inl ⟨by rfl, fun w' hS => by go_simp⟩) s0 ?_
        simp only [List.getElem_toArray, List.getElem_cons_succ, List.getElem_cons_zero, Act.put, List.setIfInBounds_toArray, List.set_cons_zero, List.set_cons_succ]
        refine wpAnyH_take (i := 4) (oi := ⟨_, _, _, _, _, _⟩) (v := .bool false) rfl (by kernel_rfl) (by kernel_rfl) (by kernel_rfl) (fun _ _ _ h => h) (Or.inl ⟨by rfl, fun w' hS => by have rk := (OMid.st hS).f.keep HR.out HNE.out; have rz := rk.lt; have r7 := rk.cell 7; simp only [irdC, List.getElem?_toArray, List.getElem?_cons_zero, List.getElem?_cons_succ] at r7; go_simp⟩) s0 ?_
        simp only [List.getElem_toArray, List.getElem_cons_succ, List.getElem_cons_zero, Act.put, List.setIfInBounds_toArray, List.set_cons_zero, List.set_cons_succ]
        refine wpAnyH_take (i := 5) (oi := ⟨_, _, _, _, _, _⟩) (v := .bool true) rfl (by kernel_rfl) (by kernel_rfl) (by kernel_rfl) (fun _ _ _ h => h) (Or.inl ⟨by rfl, fun w' hS => by go_simp⟩) s0 ?_
        simp only [List.getElem_toArray, List.getElem_cons_succ, List.getElem_cons_zero, Act.put, List.setIfInBounds_toArray, List.set_cons_zero, List.set_cons_succ]
        refine wpAnyH_take (i := 6) (oi := ⟨_, _, _, _, _, _⟩) (v := .bool true) rfl (by kernel_rfl) (by kernel_rfl) (by kernel_rfl) (fun _ _ _ h => h) (Or.inl ⟨by rfl, fun w' hS => by go_simp⟩) s0 ?_
        simp only [List.getElem_toArray, List.getElem_cons_succ, List.getElem_cons_zero, Act.put, List.setIfInBounds_toArray, List.set_cons_zero, List.set_cons_succ]
        refine wpAnyH_take (i := 7) (oi := ⟨_, _, _, _, _, _⟩) (v := undef) rfl (by kernel_rfl) (by kernel_rfl) (by kernel_rfl) (fun _ _ _ h => h) (Or.inr ⟨by rfl, rfl⟩) s0 ?_
        simp only [List.getElem_toArray, List.getElem_cons_succ, List.getElem_cons_zero, Act.put, List.setIfInBounds_toArray, List.set_cons_zero, List.set_cons_succ]
        refine wpAnyH_take (i := 8) (oi := ⟨_, _, _, _, _, _⟩) (v := undef) rfl (by kernel_rfl) (by kernel_rfl) (by kernel_rfl) (fun _ _ _ h => h) (Or.inr ⟨by rfl, rfl⟩) s0 ?_
        simp only [List.getElem_toArray, List.getElem_cons_succ, List.getElem_cons_zero, Act.put, List.setIfInBounds_toArray, List.set_cons_zero, List.set_cons_succ]
        refine wpAnyH_take (i := 9) (oi := ⟨_, _, _, _, _, _⟩) (v := undef) rfl (by kernel_rfl) (by kernel_rfl) (by kernel_rfl) (fun _ _ _ h => h) (Or.inr ⟨by rfl, rfl⟩) s0 ?_
        simp only [List.getElem_toArray, List.getElem_cons_succ, List.getElem_cons_zero, Act.put, List.setIfInBounds_toArray, List.set_cons_zero, List.set_cons_succ]
        refine wpAnyH_take (i := 10) (oi := ⟨_, _, _, _, _, _⟩) (v := undef) rfl (by kernel_rfl) (by kernel_rfl) (by kernel_rfl) (fun _ _ _ h => h) (Or.inr ⟨by rfl, rfl⟩) s0 ?_
        simp only [List.getElem_toArray, List.getElem_cons_succ, List.getElem_cons_zero, Act.put, List.setIfInBounds_toArray, List.set_cons_zero, List.set_cons_succ]
        refine wpAnyH_take (i := 11) (oi := ⟨_, _, _, _, _, _⟩) (v := undef) rfl (by kernel_rfl) (by kernel_rfl) (by kernel_rfl) (fun _ _ _ h => h) (Or.inr ⟨by rfl, rfl⟩) s0 ?_
        simp only [List.getElem_toArray, List.getElem_cons_succ, List.getElem_cons_zero, Act.put, List.setIfInBounds_toArray, List.set_cons_zero, List.set_cons_succ]
        refine wpAnyH_take (i := 12) (oi := ⟨_, _, _, _, _, _⟩) (v := undef) rfl (by kernel_rfl) (by kernel_rfl) (by kernel_rfl) (fun _ _ _ h => h) (Or.inr ⟨by rfl, rfl⟩) s0 ?_
        simp only [List.getElem_toArray, List.getElem_cons_succ, List.getElem_cons_zero, Act.put, List.setIfInBounds_toArray, List.set_cons_zero, List.set_cons_succ]
        generalize w1.drew = u1 at s0 ⊢
        refine wpAnyH_ready (rs := [13]) (by kernel_rfl) (by simp) ?_
        refine AllReadyH.cons rfl (fun K hK => ?_) AllReadyH.nil
        rw [if_neg (c := Region.wanted _ _ = true) (by intro h; exact absurd (show false = true from h) (by decide))]
        simp only [List.getElem_toArray, List.getElem_cons_succ, List.getElem_cons_zero, Act.put, List.setIfInBounds_toArray, List.set_cons_zero, List.set_cons_succ]
        refine hK.out _ _ s0 (fun s1 => ?_)
        clear hK K s0
        refine wpAnyH_take (i := 14) (oi := ⟨_, _, _, _, _, _⟩) (v := .bool true) rfl (by kernel_rfl) (by kernel_rfl) (by kernel_rfl) (fun _ _ _ h => h) (Or.inl ⟨by rfl, fun w' hS => by go_simp⟩) s1 ?_
        simp only [List.getElem_toArray, List.getElem_cons_succ, List.getElem_cons_zero, Act.put, List.setIfInBounds_toArray, List.set_cons_zero, List.set_cons_succ]
        have N := Lib.hid (PMust_okO s1.st.p)
        have M2 := Lib.hid s1
        refine wpAnyH_ready (rs := [15]) (by kernel_rfl) (by simp) ?_
        refine AllReadyH.cons rfl (fun K hK => ?_) AllReadyH.nil
        go_simp
        refine N.out.mono ?_
        rintro e u2 ⟨rfl, hpq, gg⟩
        have M3 := Lib.hid (M2.out.call hpq gg)
        refine hK.out _ _ M3.out (fun _ => ?_)
        clear hK K M2 s1 hpq gg N
        refine wpAnyH_done (by kernel_rfl) ?_ _
        go_wp2_with fail
        go_meet
        exact Lib.hid ⟨M3.out, HLS.out⟩
      | true =>
        cases hL : lessI lg lo grp obj with
        | true =>
          have HL := Lib.hid hL
          have HLS := Lib.hid (show (!true || lessI lg lo grp obj) = true by rw [hL]; rfl)
          clear hL
          refine wp_region_held_drew (S := fun wv => OMid w wv G gp g B gm p ⟨⟨fe, hid, hgr, hpr⟩, bg, lg, lo, true, ov, held⟩ grp obj prio q) (by kernel_rfl) (OMid.drew M1.out) (fun s0 => ?_)
          refine wpAnyH_take (i := 0) (oi := ⟨_, _, _, _, _, _⟩) (v := .pointer (some ⟨gp, 0, none⟩)) rfl (by kernel_rfl) (by kernel_rfl) (by kernel_rfl) (fun _ _ _ h => h) (Or.inl ⟨by rfl, fun w' hS => by go_simp⟩) s0 ?_
          simp only [List.getElem_toArray, List.getElem_cons_succ, List.getElem_cons_zero, Act.put, List.setIfInBounds_toArray, List.set_cons_zero, List.set_cons_succ]
          refine wpAnyH_take (i := 1) (oi := ⟨_, _, _, _, _, _⟩) (v := .pointer (some ⟨gr, 0, none⟩)) rfl (by kernel_rfl) (by kernel_rfl) (by kernel_rfl) (fun _ _ _ h => h) (Or.inl ⟨by rfl, fun w' hS => by go_simp⟩) s0 ?_
          simp only [List.getElem_toArray, List.getElem_cons_succ, List.getElem_cons_zero, Act.put, List.setIfInBounds_toArray, List.set_cons_zero, List.set_cons_succ]
          refine wpAnyH_take (i := 2) (oi := ⟨_, _, _, _, _, _⟩) (v := .pointer (some ⟨gr, 0, none⟩)) rfl (by kernel_rfl) (by kernel_rfl) (by kernel_rfl) (fun _ _ _ h => h) (Or.inl ⟨by rfl, fun w' hS => by go_simp⟩) s0 ?_
          simp only [List.getElem_toArray, List.getElem_cons_succ, List.getElem_cons_zero, Act.put, List.setIfInBounds_toArray, List.set_cons_zero, List.set_cons_succ]
          refine wpAnyH_take (i := 3) (oi := ⟨_, _, _, _, _, _⟩) (v := .pointer (some ⟨gr, 7, none⟩)) rfl (by kernel_rfl) (by kernel_rfl) (by kernel_rfl) (fun _ _ _ h => h) (Or.inl ⟨by rfl, fun w' hS => by go_simp⟩) s0 ?_
          simp only [List.getElem_toArray, List.getElem_cons_succ, List.getElem_cons_zero, Act.put, List.setIfInBounds_toArray, List.set_cons_zero, List.set_cons_succ]
          refine wpAnyH_take (i := 4) (oi := ⟨_, _, _, _, _, _⟩) (v := .bool true) rfl (by kernel_rfl) (by kernel_rfl) (by kernel_rfl) (fun _ _ _ h => h) (Or.inl ⟨by rfl, fun w' hS => by have rk := (OMid.st hS).f.keep HR.out HNE.out; have rz := rk.lt; have r7 := rk.cell 7; simp only [irdC, List.getElem?_toArray, List.getElem?_cons_zero, List.getElem?_cons_succ] at r7; go_simp⟩) s0 ?_
          simp only [List.getElem_toArray, List.getElem_cons_succ, List.getElem_cons_zero, Act.put, List.setIfInBounds_toArray, List.set_cons_zero, List.set_cons_succ]
          refine wpAnyH_take (i := 5) (oi := ⟨_, _, _, _, _, _⟩) (v := .bool false) rfl (by kernel_rfl) (by kernel_rfl) (by kernel_rfl) (fun _ _ _ h => h) (Or.inl ⟨by rfl, fun w' hS => by go_simp⟩) s0 ?_
          simp only [List.getElem_toArray, List.getElem_cons_succ, List.getElem_cons_zero, Act.put, List.setIfInBounds_toArray, List.set_cons_zero, List.set_cons_succ]
          refine wpAnyH_take (i := 6) (oi := ⟨_, _, _, _, _, _⟩) (v := .bool false) rfl (by kernel_rfl) (by kernel_rfl) (by kernel_rfl) (fun _ _ _ h => h) (Or.inl ⟨by rfl, fun w' hS => by go_simp⟩) s0 ?_
          simp only [List.getElem_toArray, List.getElem_cons_succ, List.getElem_cons_zero, Act.put, List.setIfInBounds_toArray, List.set_cons_zero, List.set_cons_succ]
          refine wpAnyH_take (i := 7) (oi := ⟨_, _, _, _, _, _⟩) (v := .pointer (some ⟨gr, 0, none⟩)) rfl (by kernel_rfl) (by kernel_rfl) (by kernel_rfl) (fun _ _ _ h => h) (Or.inl ⟨by rfl, fun w' hS => by go_simp⟩) s0 ?_
          simp only [List.getElem_toArray, List.getElem_cons_succ, List.getElem_cons_zero, Act.put, List.setIfInBounds_toArray, List.set_cons_zero, List.set_cons_succ]
          refine wpAnyH_take (i := 8) (oi := ⟨_, _, _, _, _, _⟩) (v := .pointer (some ⟨gr, 0, none⟩)) rfl (by kernel_rfl) (by kernel_rfl) (by kernel_rfl) (fun _ _ _ h => h) (Or.inl ⟨by rfl, fun w' hS => by go_simp⟩) s0 ?_
          simp only [List.getElem_toArray, List.getElem_cons_succ, List.getElem_cons_zero, Act.put, List.setIfInBounds_toArray, List.set_cons_zero, List.set_cons_succ]
          refine wpAnyH_take (i := 9) (oi := ⟨_, _, _, _, _, _⟩) (v := .pointer (some ⟨gr, 5, none⟩)) rfl (by kernel_rfl) (by kernel_rfl) (by kernel_rfl) (fun _ _ _ h => h) (Or.inl ⟨by rfl, fun w' hS => by go_simp⟩) s0 ?_
          simp only [List.getElem_toArray, List.getElem_cons_succ, List.getElem_cons_zero, Act.put, List.setIfInBounds_toArray, List.set_cons_zero, List.set_cons_succ]
          refine wpAnyH_take (i := 10) (oi := ⟨_, _, _, _, _, _⟩) (v := .agg #[.int .u64 lg, .int .u64 lo]) rfl (by kernel_rfl) (by kernel_rfl) (by kernel_rfl) (fun _ _ _ h => h) (yieldsIf_load_mid (by rfl) 24 (.tmp 48) rfl gr 5 rfl [.int .u64 lg, .int .u64 lo] _ (fun w' hS => range2 ((OMid.st hS).f.keep HR.out HNE.out)) Tryd.underlying24 rfl (by kernel_rfl)) s0 ?_
          simp only [List.getElem_toArray, List.getElem_cons_succ, List.getElem_cons_zero, Act.put, List.setIfInBounds_toArray, List.set_cons_zero, List.set_cons_succ]
          refine wpAnyH_take (i := 11) (oi := ⟨_, _, _, _, _, _⟩) (v := .pointer (some ⟨gm, 0, none⟩)) rfl (by kernel_rfl) (by kernel_rfl) (by kernel_rfl) (fun _ _ _ h => h) (Or.inl ⟨by rfl, fun w' hS => by go_simp⟩) s0 ?_
          simp only [List.getElem_toArray, List.getElem_cons_succ, List.getElem_cons_zero, Act.put, List.setIfInBounds_toArray, List.set_cons_zero, List.set_cons_succ]
          refine wpAnyH_take (i := 12) (oi := ⟨_, _, _, _, _, _⟩) (v := .agg #[.int .u64 grp, .int .u64 obj]) rfl (by kernel_rfl) (by kernel_rfl) (by kernel_rfl) (fun _ _ _ h => h) (yieldsIf_load_mid (by rfl) 24 (.tmp 50) rfl gm 0 rfl [.int .u64 grp, .int .u64 obj] _ (fun w' hS => range2o (OMid.st hS).k) Tryd.underlying24 rfl (by kernel_rfl)) s0 ?_
          simp only [List.getElem_toArray, List.getElem_cons_succ, List.getElem_cons_zero, Act.put, List.setIfInBounds_toArray, List.set_cons_zero, List.set_cons_succ]
          generalize w1.drew = u0 at s0 ⊢
          refine wpAnyH_ready (rs := [13]) (by kernel_rfl) (by simp) ?_
          refine AllReadyH.cons rfl (fun K hK => ?_) AllReadyH.nil
          go_simp
          refine (LessI_any lg lo grp obj u0).mono ?_
          rintro e u1 ⟨rfl, bL⟩
          have s1 := OMid.below s0 bL
          refine hK.out _ _ s1 (fun _ => ?_)
          clear hK K s0 bL
          rw [show lessI lg lo grp obj = true from HL.out]
          refine wpAnyH_take (i := 14) (oi := ⟨_, _, _, _, _, _⟩) (v := .bool true) rfl (by kernel_rfl) (by kernel_rfl) (by kernel_rfl) (fun _ _ _ h => h) (Or.inl ⟨by rfl, fun w' hS => by go_simp⟩) s1 ?_
          simp only [List.getElem_toArray, List.getElem_cons_succ, List.getElem_cons_zero, Act.put, List.setIfInBounds_toArray, List.set_cons_zero, List.set_cons_succ]
          have N := Lib.hid (PMust_okO s1.st.p)
          have M2 := Lib.hid s1
          refine wpAnyH_ready (rs := [15]) (by kernel_rfl) (by simp) ?_
          refine AllReadyH.cons rfl (fun K hK => ?_) AllReadyH.nil
          go_simp
          refine N.out.mono ?_
          rintro e u2 ⟨rfl, hpq, gg⟩
          have M3 := Lib.hid (M2.out.call hpq gg)
          refine hK.out _ _ M3.out (fun _ => ?_)
          clear hK K M2 s1 hpq gg N
          refine wpAnyH_done (by kernel_rfl) ?_ _
          go_wp2_with fail
          go_meet
          exact Lib.hid ⟨M3.out, HLS.out⟩
        | false =>
          have HL := Lib.hid hL
          clear hL
          refine wp_region_held_drew (S := fun wv => OMid w wv G gp g B gm p ⟨⟨fe, hid, hgr, hpr⟩, bg, lg, lo, true, ov, held⟩ grp obj prio q) (by kernel_rfl) (OMid.drew M1.out) (fun s0 => ?_)
          refine wpAnyH_take (i := 0) (oi := ⟨_, _, _, _, _, _⟩) (v := .pointer (some ⟨gp, 0, none⟩)) rfl (by kernel_rfl) (by kernel_rfl) (by kernel_rfl) (fun _ _ _ h => h) (Or.inl ⟨by rfl, fun w' hS => by go_simp⟩) s0 ?_
          simp only [List.getElem_toArray, List.getElem_cons_succ, List.getElem_cons_zero, Act.put, List.setIfInBounds_toArray, List.set_cons_zero, List.set_cons_succ]
          refine wpAnyH_take (i := 1) (oi := ⟨_, _, _, _, _, _⟩) (v := .pointer (some ⟨gr, 0, none⟩)) rfl (by kernel_rfl) (by kernel_rfl) (by kernel_rfl) (fun _ _ _ h => h) (Or.inl ⟨by rfl, fun w' hS => by go_simp⟩) s0 ?_
          simp only [List.getElem_toArray, List.getElem_cons_succ, List.getElem_cons_zero, Act.put, List.setIfInBounds_toArray, List.set_cons_zero, List.set_cons_succ]
          refine wpAnyH_take (i := 2) (oi := ⟨_, _, _, _, _, _⟩) (v := .pointer (some ⟨gr, 0, none⟩)) rfl (by kernel_rfl) (by kernel_rfl) (by kernel_rfl) (fun _ _ _ h => h) (Or.inl ⟨by rfl, fun w' hS => by go_simp⟩) s0 ?_
          simp only [List.getElem_toArray, List.getElem_cons_succ, List.getElem_cons_zero, Act.put, List.setIfInBounds_toArray, List.set_cons_zero, List.set_cons_succ]
          refine wpAnyH_take (i := 3) (oi := ⟨_, _, _, _, _, _⟩) (v := .pointer (some ⟨gr, 7, none⟩)) rfl (by kernel_rfl) (by kernel_rfl) (by kernel_rfl) (fun _ _ _ h => h) (Or.inl ⟨by rfl, fun w' hS => by go_simp⟩) s0 ?_
          simp only [List.getElem_toArray, List.getElem_cons_succ, List.getElem_cons_zero, Act.put, List.setIfInBounds_toArray, List.set_cons_zero, List.set_cons_succ]
          refine wpAnyH_take (i := 4) (oi := ⟨_, _, _, _, _, _⟩) (v := .bool true) rfl (by kernel_rfl) (by kernel_rfl) (by kernel_rfl) (fun _ _ _ h => h) (Or.inl ⟨by rfl, fun w' hS => by have rk := (OMid.st hS).f.keep HR.out HNE.out; have rz := rk.lt; have r7 := rk.cell 7; simp only [irdC, List.getElem?_toArray, List.getElem?_cons_zero, List.getElem?_cons_succ] at r7; go_simp⟩) s0 ?_
          simp only [List.getElem_toArray, List.getElem_cons_succ, List.getElem_cons_zero, Act.put, List.setIfInBounds_toArray, List.set_cons_zero, List.set_cons_succ]
          refine wpAnyH_take (i := 5) (oi := ⟨_, _, _, _, _, _⟩) (v := .bool false) rfl (by kernel_rfl) (by kernel_rfl) (by kernel_rfl) (fun _ _ _ h => h) (Or.inl ⟨by rfl, fun w' hS => by go_simp⟩) s0 ?_
          simp only [List.getElem_toArray, List.getElem_cons_succ, List.getElem_cons_zero, Act.put, List.setIfInBounds_toArray, List.set_cons_zero, List.set_cons_succ]
          refine wpAnyH_take (i := 6) (oi := ⟨_, _, _, _, _, _⟩) (v := .bool false) rfl (by kernel_rfl) (by kernel_rfl) (by kernel_rfl) (fun _ _ _ h => h) (Or.inl ⟨by rfl, fun w' hS => by go_simp⟩) s0 ?_
          simp only [List.getElem_toArray, List.getElem_cons_succ, List.getElem_cons_zero, Act.put, List.setIfInBounds_toArray, List.set_cons_zero, List.set_cons_succ]
          refine wpAnyH_take (i := 7) (oi := ⟨_, _, _, _, _, _⟩) (v := .pointer (some ⟨gr, 0, none⟩)) rfl (by kernel_rfl) (by kernel_rfl) (by kernel_rfl) (fun _ _ _ h => h) (Or.inl ⟨by rfl, fun w' hS => by go_simp⟩) s0 ?_
          simp only [List.getElem_toArray, List.getElem_cons_succ, List.getElem_cons_zero, Act.put, List.setIfInBounds_toArray, List.set_cons_zero, List.set_cons_succ]
          refine wpAnyH_take (i := 8) (oi := ⟨_, _, _, _, _, _⟩) (v := .pointer (some ⟨gr, 0, none⟩)) rfl (by kernel_rfl) (by kernel_rfl) (by kernel_rfl) (fun _ _ _ h => h) (Or.inl ⟨by rfl, fun w' hS => by go_simp⟩) s0 ?_
          simp only [List.getElem_toArray, List.getElem_cons_succ, List.getElem_cons_zero, Act.put, List.setIfInBounds_toArray, List.set_cons_zero, List.set_cons_succ]
          refine wpAnyH_take (i := 9) (oi := ⟨_, _, _, _, _, _⟩) (v := .pointer (some ⟨gr, 5, none⟩)) rfl (by kernel_rfl) (by kernel_rfl) (by kernel_rfl) (fun _ _ _ h => h) (Or.inl ⟨by rfl, fun w' hS => by go_simp⟩) s0 ?_
          simp only [List.getElem_toArray, List.getElem_cons_succ, List.getElem_cons_zero, Act.put, List.setIfInBounds_toArray, List.set_cons_zero, List.set_cons_succ]
          refine wpAnyH_take (i := 10) (oi := ⟨_, _, _, _, _, _⟩) (v := .agg #[.int .u64 lg, .int .u64 lo]) rfl (by kernel_rfl) (by kernel_rfl) (by kernel_rfl) (fun _ _ _ h => h) (yieldsIf_load_mid (by rfl) 24 (.tmp 48) rfl gr 5 rfl [.int .u64 lg, .int .u64 lo] _ (fun w' hS => range2 ((OMid.st hS).f.keep HR.out HNE.out)) Tryd.underlying24 rfl (by kernel_rfl)) s0 ?_
          simp only [List.getElem_toArray, List.getElem_cons_succ, List.getElem_cons_zero, Act.put, List.setIfInBounds_toArray, List.set_cons_zero, List.set_cons_succ]
          refine wpAnyH_take (i := 11) (oi := ⟨_, _, _, _, _, _⟩) (v := .pointer (some ⟨gm, 0, none⟩)) rfl (by kernel_rfl) (by kernel_rfl) (by kernel_rfl) (fun _ _ _ h => h) (Or.inl ⟨by rfl, fun w' hS => by go_simp⟩) s0 ?_
          simp only [List.getElem_toArray, List.getElem_cons_succ, List.getElem_cons_zero, Act.put, List.setIfInBounds_toArray, List.set_cons_zero, List.set_cons_succ]
          refine wpAnyH_take (i := 12) (oi := ⟨_, _, _, _, _, _⟩) (v := .agg #[.int .u64 grp, .int .u64 obj]) rfl (by kernel_rfl) (by kernel_rfl) (by kernel_rfl) (fun _ _ _ h => h) (yieldsIf_load_mid (by rfl) 24 (.tmp 50) rfl gm 0 rfl [.int .u64 grp, .int .u64 obj] _ (fun w' hS => range2o (OMid.st hS).k) Tryd.underlying24 rfl (by kernel_rfl)) s0 ?_
          simp only [List.getElem_toArray, List.getElem_cons_succ, List.getElem_cons_zero, Act.put, List.setIfInBounds_toArray, List.set_cons_zero, List.set_cons_succ]
          generalize w1.drew = u0 at s0 ⊢
          refine wpAnyH_ready (rs := [13]) (by kernel_rfl) (by simp) ?_
          refine AllReadyH.cons rfl (fun K hK => ?_) AllReadyH.nil
          go_simp
          refine (LessI_any lg lo grp obj u0).mono ?_
          rintro e u1 ⟨rfl, bL⟩
          have s1 := OMid.below s0 bL
          refine hK.out _ _ s1 (fun _ => ?_)
          clear hK K s0 bL
          rw [show lessI lg lo grp obj = false from HL.out]
          refine wpAnyH_take (i := 14) (oi := ⟨_, _, _, _, _, _⟩) (v := .bool false) rfl (by kernel_rfl) (by kernel_rfl) (by kernel_rfl) (fun _ _ _ h => h) (Or.inl ⟨by rfl, fun w' hS => by go_simp⟩) s1 ?_
          simp only [List.getElem_toArray, List.getElem_cons_succ, List.getElem_cons_zero, Act.put, List.setIfInBounds_toArray, List.set_cons_zero, List.set_cons_succ]
          have N := Lib.hid (PMust_noO s1.st.p)
          have M2 := Lib.hid s1
          refine wpAnyH_ready (rs := [15]) (by kernel_rfl) (by simp) ?_
          refine AllReadyH.cons rfl (fun K hK => ?_) AllReadyH.nil
          go_simp
          refine N.out.mono ?_
          rintro e u2 ⟨rfl, gx⟩
          refine ⟨rfl, ?_⟩
          show P9 _ _
          rw [HP.out]
          exact ObjTo.bad (M2.out.e.trans (pTail_none (by show (!true || lessI lg lo grp obj) = false; rw [HL.out]; rfl))) (M2.out.st.fail gx) HR.out HNE.out
    case rest =>
      clear M1
      obtain ⟨M1, HLS⟩ := hcut.out
      have S1 := Lib.hid M1.st
      have HPT := Lib.hid (M1.e.trans (pTail_some HLS))
      clear M1 HLS hcut
      rename World => w1
      by_cases t0 : rdS q = 0
      · have N := Lib.hid (PText_no1O 2048 S1.out.p t0)
        have HPB := Lib.hid (show pObj ⟨⟨fe, hid, hgr, hpr⟩, bg, lg, lo, sm, ov, held⟩ p = .error 2 by rw [HPT.out]; unfold pText; rw [if_pos t0])
        go_wp2_with fail
        refine N.out.mono ?_
        rintro e wx ⟨rfl, gx⟩
        refine ⟨rfl, ?_⟩
        show P9 _ _
        rw [HP.out]
        exact ObjTo.bad HPB.out (S1.out.fail gx) HR.out HNE.out
      · by_cases t1 : 2048 < rdN q
        · have N := Lib.hid (PText_no2O 2048 S1.out.p t0 t1)
          have HPB := Lib.hid (show pObj ⟨⟨fe, hid, hgr, hpr⟩, bg, lg, lo, sm, ov, held⟩ p = .error 4 by rw [HPT.out]; unfold pText; rw [if_neg t0, if_pos t1])
          go_wp2_with fail
          refine N.out.mono ?_
          rintro e wx ⟨rfl, gx⟩
          refine ⟨rfl, ?_⟩
          show P9 _ _
          rw [HP.out]
          exact ObjTo.bad HPB.out (S1.out.fail gx) HR.out HNE.out
        · have t1' : rdN q ≤ (2048 : Nat) := by omega
          by_cases t2 : ((q.drop (rdS q)).length : Int) < rdN q
          · have N := Lib.hid (PText_no3O 2048 S1.out.p t0 t1' (by decide) t2)
            have HPB := Lib.hid (show pObj ⟨⟨fe, hid, hgr, hpr⟩, bg, lg, lo, sm, ov, held⟩ p = .error 2 by rw [HPT.out]; unfold pText; rw [if_neg t0, if_neg t1, if_pos t2])
            go_wp2_with fail
            refine N.out.mono ?_
            rintro e wx ⟨rfl, gx⟩
            refine ⟨rfl, ?_⟩
            show P9 _ _
            rw [HP.out]
            exact ObjTo.bad HPB.out (S1.out.fail gx) HR.out HNE.out
          · have N := PText_okO 2048 S1.out.p t0 t1' (by omega)
            have HPB := (show pObj ⟨⟨fe, hid, hgr, hpr⟩, bg, lg, lo, sm, ov, held⟩ p = .ok (⟨grp, obj, prio, false, (q.drop (rdS q)).take (rdN q).toNat⟩, (q.drop (rdS q)).drop (rdN q).toNat) by rw [HPT.out]; unfold pText; rw [if_neg t0, if_neg t1, if_neg t2])
            have hdl : ((q.drop (rdS q)).take (rdN q).toNat).length = (rdN q).toNat := by rw [List.length_take]; omega
            obtain ⟨D, hD⟩ : ∃ D, D = (q.drop (rdS q)).take (rdN q).toNat := ⟨_, rfl⟩
            obtain ⟨R, hR⟩ : ∃ R, R = (q.drop (rdS q)).drop (rdN q).toNat := ⟨_, rfl⟩
            rw [← hD, ← hR] at N HPB
            rw [← hD] at hdl
            rw [← hdl] at N
            have N := Lib.hid N
            have HPB := Lib.hid HPB
            have hz1 := S1.out.z.lt
            have hk1 := S1.out.k.lt
            have hg1 := S1.out.hg
            clear hD hR hdl t0 t1 t1' t2 HPT
            go_wp2_with fail
            refine N.out.mono ?_
            rintro e w2 ⟨A1, c1, B1, rfl, hB1, o1, hpq, gg⟩
            have S2 := Lib.hid (S1.out.call hpq gg)
            have O2 := Lib.hid (Own.base_leI o1 (show w.heap.size + 2 ≤ B1 by omega))
            clear hpq gg N S1 o1 hB1 hz1 hk1 hg1
            have zk := S2.out.k.lt
            have fk := fun i => S2.out.k.frozen i
            have kk := S2.out.k.cell 4
            simp only [objC, List.getElem?_toArray, List.getElem?_cons_zero, List.getElem?_cons_succ] at kk
            obtain ⟨w3, hw⟩ : ∃ v, v = w2.setCell ⟨gm, 4, none⟩ (.slice A1 D.length c1) := ⟨_, rfl⟩
            have S3 := Lib.hid (show OStep w w3 G gp g B gm R ((objC grp obj prio).setIfInBounds 4 (.slice A1 D.length c1)) by rw [hw]; exact S2.out.put 4 (.slice A1 D.length c1))
            have O3 := Lib.hid (show Own w3 (w.heap.size + 2) A1 c1 D by
              rw [hw]
              exact OwnV.apart (show OwnV w2 (w.heap.size + 2) 5 1 A1 c1 D.length (U8 D) from O2.out) (only_set (only_refl w2 (some gm)) (p := ⟨gm, 4, none⟩) rfl (.slice A1 D.length c1)) (fun k hk e => by
                have := OwnV.row_ge O2.out k hk
                have := S2.out.hg
                injection e with e
                omega))
            go_upto_region 11 with (fail)
            rw [← hw]
            clear hw zk fk kk
            have RK := Lib.hid (S3.out.f.keep HR.out HNE.out)
            have KB := Lib.hid (show Blk w3 gm 27 (ovC ⟨grp, obj, prio, false, D⟩ A1 c1) from S3.out.k)
            have r7 := RK.out.cell 7
            have rf7 := RK.out.frozen 7
            have rz := RK.out.lt
            simp only [irdC, List.getElem?_toArray, List.getElem?_cons_zero, List.getElem?_cons_succ] at r7
            have hc7 : ((w3.setCells gr 5 [.int .u64 grp, .int .u64 obj]).cell? ⟨gr, 7, none⟩).isSome = true := by
              apply World.isSome_setCells
              rw [r7]; rfl
            obtain ⟨v7, hv7⟩ := Option.isSome_iff_exists.1 hc7
            have hf7 : (w3.setCells gr 5 [.int .u64 grp, .int .u64 obj]).frozen? ⟨gr, 7, none⟩ = false := by
              rw [World.frozen?_setCells]; exact rf7
            go_upto_region 12 with (first
              | refine wpList_load_mid rfl 24 (.tmp 60) rfl gm 0 rfl [.int .u64 grp, .int .u64 obj] _ (range2v KB.out) Tryd.underlying24 rfl (by kernel_rfl) ?_
              | refine wpList_store_mid rfl 24 (.tmp 63) (.tmp 61) rfl gr 5 _ rfl rfl (RB.there2 RK.out) (by kernel_rfl) (by simp [Value.oneCell']) ?_)
            obtain ⟨w4, hw4⟩ : ∃ v, v = ((w3.setCells gr 5 [.int .u64 grp, .int .u64 obj]).setCell ⟨gr, 7, none⟩ (.bool true)) := ⟨_, rfl⟩
            have gk := only_put3 w3 gr (.int .u64 grp) (.int .u64 obj) (.bool true)
            rw [← hw4] at gk
            have hgrn := (show gr < w.heap.size from HR.out.lt)
            have hS3g := S3.out.hg
            have KB4 := Lib.hid (KB.out.grown gk (fun e => by injection e with e; omega))
            have KZ4 := Lib.hid (S3.out.z.grown gk (fun e => by injection e with e; omega))
            have HW4 := Lib.hid hw4
            obtain ⟨MC, hMC⟩ : ∃ MC, MC = ovC ⟨grp, obj, prio, false, D⟩ A1 c1 := ⟨_, rfl⟩
            rw [← hMC] at KB4
            have HMC := Lib.hid hMC
            have HM1 := Lib.hid (show MC.all (·.oneCell') = true by rw [hMC]; simp [ovC, Value.oneCell'])
            have HMS := Lib.hid (show (Tryd.prog.info? 27).map (·.size) = some MC.size by rw [hMC]; exact info_obj)
            have HMZ := Lib.hid (show MC.size = zeroO.size by rw [hMC]; rfl)
            rw [← hw4]
            clear hw4 r7 rf7 rz hc7 hv7 hf7 gk hgrn hS3g hMC
            go_wp2_with (first
              | refine wpList_load_row rfl 27 (.tmp 5) rfl gm rfl 27 MC (0, 0) _ KB4.out Tryd.underlying27 rfl HMS.out ?_
              | refine wpList_store_row rfl 27 (.tmp 4) (.tmp 66) rfl w.heap.size MC rfl rfl 27 _ KZ4.out HMS.out (by rw [HMZ.out]) HM1.out ?_)
            refine bodyPost_ret (results_cell_row rfl _ _ w.heap.size 27 MC (0, 0) _ rfl (setRowI KZ4.out MC) Tryd.underlying27 rfl HMS.out) rfl ?_
            show P9 _ _
            have E := obj_end (o := ⟨grp, obj, prio, false, D⟩) HGG.out S3.out HR.out HNE.out HNP.out O3.out HPB.out
            simp only at E
            rw [← HW4.out, ← HMC.out] at E
            rw [HP.out]
            exact E
end Go.Proofs.YtpaglcojbcndoaaDoor
