/-
  The item reader's begin, for every input.
-/
import Derived.Test.YtpaglcojbcndoaaDoorItemL
import Derived.Test.YtpaglcojbcndoaaDoorScnP
import Derived.Deep.MidRow
namespace Go.Proofs.YtpaglcojbcndoaaDoor
open Go.RowKit
set_option linter.unusedVariables false
set_option linter.unusedSimpArgs false
section
variable {G gp g B : Nat} {p q : List Int} {L : Int} {w : World}
theorem WNumO_ok {n : Int} (h : PrsO G w gp g B p L) (hn : pnum p = some (n, q)) :
    Calls Tryd.prog 29 #[.pointer (some ⟨gp, 0, none⟩)] w fun r w' => r = .returned (.int .u64 n) ∧ PrsO G w' gp g B q L ∧ w.grownBy w' (some g) := by
  obtain ⟨h0, rfl, rfl⟩ := pnum_some hn
  exact PNumber_okO h h0
theorem WNumO_no (h : PrsO G w gp g B p L) (hn : pnum p = none) :
    Calls Tryd.prog 29 #[.pointer (some ⟨gp, 0, none⟩)] w fun r w' => r = dies L ∧ w.grownBy w' (some g) := PNumber_noO h (pnum_none hn)
end
abbrev RB (w : World) (gr : Nat) (s : IRd) (A : Option Addr) (c : Nat) : Prop := Blk w gr 80 (irdC s A c)
/-- What begin does. -/
structure BeginTo (w w' : World) (gr G gp g B : Nat) (p : List Int) (s : IRd) (A : Option Addr) (c : Nat) (r : Ending) : Prop where
  ok : ∀ h q, pBegin p = .ok (h, q) → r = .returned (.tuple #[]) ∧ PrsO G w' gp g B q 2 ∧ RB w' gr (s.hd h) A c
  no : ∀ e, pBegin p = .error e → r = dies e ∧ RB w' gr s A c
  fr : Frm w w' (fun b => b = g ∨ b = gr)
theorem BeginTo.bad {w w' : World} {gr G gp g B : Nat} {p : List Int} {s : IRd} {A : Option Addr} {c : Nat} {x : Int} (h : pBegin p = .error x) (hf : Frm w w' (fun b => b = g)) (hb : RB w gr s A c) (hn : gr ≠ g) : BeginTo w w' gr G gp g B p s A c (dies x) :=
  ⟨fun h' q hq => (by rw [h] at hq; cases hq), fun e he => (by rw [h] at he; injection he with he; subst he; exact ⟨rfl, hf.keep hb hn⟩), hf.mono (fun b _ hb => .inl hb)⟩
theorem RB.ne_g {w : World} {gr G : Nat} {s : IRd} {A : Option Addr} {c g B : Nat} {p : List Int} {e : Int} (h : RB w gr s A c) (hr : RdrO G w g B p e) : gr ≠ g := by
  obtain ⟨A1, c1, k, _⟩ := hr.blk
  exact h.ne_ k (by decide)
theorem RB.there (w : World) (gr : Nat) (s : IRd) (A : Option Addr) (c : Nat) (h : RB w gr s A c) : w.there gr 0 4 := fun j hj => by
  rw [Nat.zero_add]
  exact ⟨by rw [h.cell, Array.getElem?_eq_getElem (by simp [irdC]; omega)]; rfl, h.frozen j⟩
theorem setCells4 (w : World) (gr : Nat) (a b c d : Value) : w.setCells gr 0 [a, b, c, d] = (((w.setCell ⟨gr, 0, none⟩ a).setCell ⟨gr, 1, none⟩ b).setCell ⟨gr, 2, none⟩ c).setCell ⟨gr, 3, none⟩ d := rfl
theorem RB.put4 {w : World} {gr : Nat} {s : IRd} {A : Option Addr} {c : Nat} (h : RB w gr s A c) (f : Bool) (id g p : Int) : RB ((w.setCells gr 0 [.bool f, .int .u64 id, .int .u64 g, .int .u8 p]).setCell ⟨gr, 4, none⟩ (.bool true)) gr (s.hd ⟨f, id, g, p⟩) A c := by
  rw [setCells4]
  exact ((((h.set_ 0 (.bool f)).set_ 1 (.int .u64 id)).set_ 2 (.int .u64 g)).set_ 3 (.int .u8 p)).set_ 4 (.bool true)
theorem PrsO.put4 {w : World} {gr G gp g B : Nat} {q : List Int} {L : Int} (h : PrsO G w gp g B q L) (hx : gr ≠ G) (h1 : gr ≠ g) (h2 : gr ≠ gp) (a b c d e : Value) : PrsO G ((w.setCells gr 0 [a, b, c, d]).setCell ⟨gr, 4, none⟩ e) gp g B q L := by
  rw [setCells4]
  exact ((((h.setG hx h1 h2 0 a).setG hx h1 h2 1 b).setG hx h1 h2 2 c).setG hx h1 h2 3 d).setG hx h1 h2 4 e
theorem Frm.put4 {w w' : World} {gr g : Nat} (h : Frm w w' (fun b => b = g)) (a b c d e : Value) : Frm w ((w'.setCells gr 0 [a, b, c, d]).setCell ⟨gr, 4, none⟩ e) (fun b => b = g ∨ b = gr) := by
  rw [setCells4]
  have h' : Frm w w' (fun b => b = g ∨ b = gr) := h.mono (fun b _ hb => .inl hb)
  exact ((((h'.set (p := ⟨gr, 0, none⟩) (.inr (.inr rfl)) a).set (p := ⟨gr, 1, none⟩) (.inr (.inr rfl)) b).set (p := ⟨gr, 2, none⟩) (.inr (.inr rfl)) c).set (p := ⟨gr, 3, none⟩) (.inr (.inr rfl)) d).set (p := ⟨gr, 4, none⟩) (.inr (.inr rfl)) e
/-- What stands in a step of begin. -/
structure BStep (w wi : World) (G gp g B gm : Nat) (q : List Int) (box : Array Value) : Prop where
  p : PrsO G wi gp g B q 2
  k : Blk wi gm 53 box
  f : Frm w wi (fun b => b = g)
  ng : gm ≠ g
  np : gm ≠ gp
  hB : B ≤ gm
  hw : w.heap.size ≤ gm
theorem BStep.call {w wi wj : World} {G gp g B gm : Nat} {q q' : List Int} {box : Array Value} (h : BStep w wi G gp g B gm q box) (hp : PrsO G wj gp g B q' 2) (gg : wi.grownBy wj (some g)) : BStep w wj G gp g B gm q' box :=
  ⟨hp, h.k.grown gg (fun e => by injection e with e; exact h.ng e), h.f.grown gg (fun r hr => .inr (by injection hr with hr; exact hr.symm)), h.ng, h.np, h.hB, h.hw⟩
theorem BStep.fail {w wi wj : World} {G gp g B gm : Nat} {q : List Int} {box : Array Value} (h : BStep w wi G gp g B gm q box) (gg : wi.grownBy wj (some g)) : Frm w wj (fun b => b = g) :=
  h.f.grown gg (fun r hr => .inr (by injection hr with hr; exact hr.symm))
theorem BStep.put {w wi : World} {G gp g B gm : Nat} {q : List Int} {box : Array Value} (h : BStep w wi G gp g B gm q box) (i : Nat) (v : Value) : BStep w (wi.setCell ⟨gm, i, none⟩ v) G gp g B gm q (box.setIfInBounds i v) :=
  ⟨h.p.set_ h.ng h.np h.hB i v, h.k.set_ i v, h.f.set (p := ⟨gm, i, none⟩) (.inl h.hw) v, h.ng, h.np, h.hB, h.hw⟩
set_option maxHeartbeats 3200000 in
set_option maxRecDepth 100000 in
theorem begin_none (gr G gp g B : Nat) (p : List Int) (s : IRd) (A : Option Addr) (c : Nat) (w : World) (hG : gr ≠ G) (hp : PrsO G w gp g B p 2) (hr : RB w gr s A c) (hpn : pnum p = none) :
    Calls Tryd.prog 39 #[.pointer (some ⟨gr, 0, none⟩), .pointer (some ⟨gp, 0, none⟩)] w fun r w' => BeginTo w w' gr G gp g B p s A c r := by
  obtain ⟨P9, hP9⟩ : ∃ P9 : World → Ending → Prop, P9 = fun w' r => BeginTo w w' gr G gp g B p s A c r := ⟨_, rfl⟩
  have HP := Lib.hid hP9
  rw [show (fun r w' => BeginTo w w' gr G gp g B p s A c r) = fun r w' => P9 w' r by rw [hP9]]
  have HNE := Lib.hid (hr.ne_g hp.rd)
  have HNP := Lib.hid (show gr ≠ gp from hr.ne_ hp.pb (by decide))
  have HR := Lib.hid hr
  have HGG := Lib.hid hG
  have zr := hr.lt
  have fr := fun i => hr.frozen i
  obtain ⟨W, hW⟩ : ∃ W, W = w.alloc (.cells #[.bool false, .int .u64 0, .int .u64 0, .int .u8 0] 53) := ⟨_, rfl⟩
  obtain ⟨gm, hgm⟩ : ∃ gm, gm = w.heap.size := ⟨_, rfl⟩
  have bw : Below w.heap.size w W := by rw [hW]; exact (Below.refl _ _).alloc (Nat.le_refl _) _
  have hgl := hp.rd.lt
  have hgpl := hp.pb.lt
  have hBg := hp.rd.le
  have S0 := Lib.hid (show BStep w W G gp g B gm p #[.bool false, .int .u64 0, .int .u64 0, .int .u8 0] from
    ⟨hp.below bw, by rw [hW, hgm]; exact Blk.new _ _ _, Frm.of_below bw, by omega, by omega, by omega, by omega⟩)
  have FIN : ∀ wi q f id gi pi, BStep w wi G gp g B gm q #[.bool f, .int .u64 id, .int .u64 gi, .int .u8 pi] → pBegin p = .ok (⟨f, id, gi, pi⟩, q) → BeginTo w ((wi.setCells gr 0 [.bool f, .int .u64 id, .int .u64 gi, .int .u8 pi]).setCell ⟨gr, 4, none⟩ (.bool true)) gr G gp g B p s A c (.returned (.tuple #[])) := fun wi q f id gi pi st he =>
    ⟨fun h' q' hq => (by
      rw [he] at hq
      injection hq with hq
      injection hq with e1 e2
      subst e1 e2
      exact ⟨rfl, st.p.put4 HGG.out HNE.out HNP.out _ _ _ _ _, RB.put4 (st.f.keep HR.out HNE.out) f id gi pi⟩), fun e hq => (by rw [he] at hq; cases hq), st.f.put4 _ _ _ _ _⟩
  have HFIN := Lib.hid FIN
  have HW := Lib.hid hW
  have HG := Lib.hid hgm
  clear hG hp hr bw hW hgm hP9 FIN hgl hgpl hBg
  have HPB := Lib.hid (show pBegin p = .error 2 by unfold pBegin; rw [hpn])
  have N := Lib.hid (WNumO_no S0.out.p hpn)
  clear hpn
  go_enter Tryd.func39, Tryd.ntmps39
  go_upto_region 1 with (fail)
  rw [← HW.out, ← HG.out]
  go_wp2_with fail
  refine N.out.mono ?_
  rintro e wx ⟨rfl, gx⟩
  refine ⟨rfl, ?_⟩
  show P9 _ _
  rw [HP.out]
  exact BeginTo.bad HPB.out (S0.out.fail gx) HR.out HNE.out
set_option maxHeartbeats 3200000 in
set_option maxRecDepth 100000 in
theorem begin_bad (gr G gp g B : Nat) (p q1 : List Int) (s : IRd) (A : Option Addr) (c : Nat) (w : World) (hG : gr ≠ G) (hp : PrsO G w gp g B p 2) (hr : RB w gr s A c) (m : Int) (h5 : m ≠ 5) (h16 : m ≠ 16) (hpn : pnum p = some (m, q1)) :
    Calls Tryd.prog 39 #[.pointer (some ⟨gr, 0, none⟩), .pointer (some ⟨gp, 0, none⟩)] w fun r w' => BeginTo w w' gr G gp g B p s A c r := by
  obtain ⟨P9, hP9⟩ : ∃ P9 : World → Ending → Prop, P9 = fun w' r => BeginTo w w' gr G gp g B p s A c r := ⟨_, rfl⟩
  have HP := Lib.hid hP9
  rw [show (fun r w' => BeginTo w w' gr G gp g B p s A c r) = fun r w' => P9 w' r by rw [hP9]]
  have HNE := Lib.hid (hr.ne_g hp.rd)
  have HNP := Lib.hid (show gr ≠ gp from hr.ne_ hp.pb (by decide))
  have HR := Lib.hid hr
  have HGG := Lib.hid hG
  have zr := hr.lt
  have fr := fun i => hr.frozen i
  obtain ⟨W, hW⟩ : ∃ W, W = w.alloc (.cells #[.bool false, .int .u64 0, .int .u64 0, .int .u8 0] 53) := ⟨_, rfl⟩
  obtain ⟨gm, hgm⟩ : ∃ gm, gm = w.heap.size := ⟨_, rfl⟩
  have bw : Below w.heap.size w W := by rw [hW]; exact (Below.refl _ _).alloc (Nat.le_refl _) _
  have hgl := hp.rd.lt
  have hgpl := hp.pb.lt
  have hBg := hp.rd.le
  have S0 := Lib.hid (show BStep w W G gp g B gm p #[.bool false, .int .u64 0, .int .u64 0, .int .u8 0] from
    ⟨hp.below bw, by rw [hW, hgm]; exact Blk.new _ _ _, Frm.of_below bw, by omega, by omega, by omega, by omega⟩)
  have FIN : ∀ wi q f id gi pi, BStep w wi G gp g B gm q #[.bool f, .int .u64 id, .int .u64 gi, .int .u8 pi] → pBegin p = .ok (⟨f, id, gi, pi⟩, q) → BeginTo w ((wi.setCells gr 0 [.bool f, .int .u64 id, .int .u64 gi, .int .u8 pi]).setCell ⟨gr, 4, none⟩ (.bool true)) gr G gp g B p s A c (.returned (.tuple #[])) := fun wi q f id gi pi st he =>
    ⟨fun h' q' hq => (by
      rw [he] at hq
      injection hq with hq
      injection hq with e1 e2
      subst e1 e2
      exact ⟨rfl, st.p.put4 HGG.out HNE.out HNP.out _ _ _ _ _, RB.put4 (st.f.keep HR.out HNE.out) f id gi pi⟩), fun e hq => (by rw [he] at hq; cases hq), st.f.put4 _ _ _ _ _⟩
  have HFIN := Lib.hid FIN
  have HW := Lib.hid hW
  have HG := Lib.hid hgm
  clear hG hp hr bw hW hgm hP9 FIN hgl hgpl hBg
  have H1 := Lib.hid hpn
  have N := Lib.hid (WNumO_ok S0.out.p hpn)
  clear hpn
  go_enter Tryd.func39, Tryd.ntmps39
  go_upto_region 1 with (fail)
  rw [← HW.out, ← HG.out]
  go_wp2_with fail
  refine N.out.mono ?_
  rintro e w1 ⟨rfl, hpq, gg⟩
  have S1 := Lib.hid (S0.out.call hpq gg)
  clear hpq gg N S0 HW HG
  have N := Lib.hid (PMust_noO S1.out.p)
  have e5 : (m == 5) = false := by simpa using h5
  have e16 : (m == 16) = false := by simpa using h16
  have HPB := Lib.hid (show pBegin p = .error 4 by unfold pBegin; rw [H1.out]; simp only [h5, h16, if_false])
  go_wp2_with fail
  refine N.out.mono ?_
  rintro e wx ⟨rfl, gx⟩
  refine ⟨rfl, ?_⟩
  show P9 _ _
  rw [HP.out]
  exact BeginTo.bad HPB.out (S1.out.fail gx) HR.out HNE.out
set_option maxHeartbeats 3200000 in
set_option maxRecDepth 100000 in
theorem begin_5 (gr G gp g B : Nat) (p q1 : List Int) (s : IRd) (A : Option Addr) (c : Nat) (w : World) (hG : gr ≠ G) (hp : PrsO G w gp g B p 2) (hr : RB w gr s A c) (hpn : pnum p = some (5, q1)) :
    Calls Tryd.prog 39 #[.pointer (some ⟨gr, 0, none⟩), .pointer (some ⟨gp, 0, none⟩)] w fun r w' => BeginTo w w' gr G gp g B p s A c r := by
  obtain ⟨P9, hP9⟩ : ∃ P9 : World → Ending → Prop, P9 = fun w' r => BeginTo w w' gr G gp g B p s A c r := ⟨_, rfl⟩
  have HP := Lib.hid hP9
  rw [show (fun r w' => BeginTo w w' gr G gp g B p s A c r) = fun r w' => P9 w' r by rw [hP9]]
  have HNE := Lib.hid (hr.ne_g hp.rd)
  have HNP := Lib.hid (show gr ≠ gp from hr.ne_ hp.pb (by decide))
  have HR := Lib.hid hr
  have HGG := Lib.hid hG
  have zr := hr.lt
  have fr := fun i => hr.frozen i
  obtain ⟨W, hW⟩ : ∃ W, W = w.alloc (.cells #[.bool false, .int .u64 0, .int .u64 0, .int .u8 0] 53) := ⟨_, rfl⟩
  obtain ⟨gm, hgm⟩ : ∃ gm, gm = w.heap.size := ⟨_, rfl⟩
  have bw : Below w.heap.size w W := by rw [hW]; exact (Below.refl _ _).alloc (Nat.le_refl _) _
  have hgl := hp.rd.lt
  have hgpl := hp.pb.lt
  have hBg := hp.rd.le
  have S0 := Lib.hid (show BStep w W G gp g B gm p #[.bool false, .int .u64 0, .int .u64 0, .int .u8 0] from
    ⟨hp.below bw, by rw [hW, hgm]; exact Blk.new _ _ _, Frm.of_below bw, by omega, by omega, by omega, by omega⟩)
  have FIN : ∀ wi q f id gi pi, BStep w wi G gp g B gm q #[.bool f, .int .u64 id, .int .u64 gi, .int .u8 pi] → pBegin p = .ok (⟨f, id, gi, pi⟩, q) → BeginTo w ((wi.setCells gr 0 [.bool f, .int .u64 id, .int .u64 gi, .int .u8 pi]).setCell ⟨gr, 4, none⟩ (.bool true)) gr G gp g B p s A c (.returned (.tuple #[])) := fun wi q f id gi pi st he =>
    ⟨fun h' q' hq => (by
      rw [he] at hq
      injection hq with hq
      injection hq with e1 e2
      subst e1 e2
      exact ⟨rfl, st.p.put4 HGG.out HNE.out HNP.out _ _ _ _ _, RB.put4 (st.f.keep HR.out HNE.out) f id gi pi⟩), fun e hq => (by rw [he] at hq; cases hq), st.f.put4 _ _ _ _ _⟩
  have HFIN := Lib.hid FIN
  have HW := Lib.hid hW
  have HG := Lib.hid hgm
  clear hG hp hr bw hW hgm hP9 FIN hgl hgpl hBg
  have H1 := Lib.hid hpn
  have N := Lib.hid (WNumO_ok S0.out.p hpn)
  clear hpn
  go_enter Tryd.func39, Tryd.ntmps39
  go_upto_region 1 with (fail)
  rw [← HW.out, ← HG.out]
  go_wp2_with fail
  refine N.out.mono ?_
  rintro e w1 ⟨rfl, hpq, gg⟩
  have S1 := Lib.hid (S0.out.call hpq gg)
  clear hpq gg N S0 HW HG
  have N := Lib.hid (PMust_okO S1.out.p)
  go_wp2_with fail
  refine N.out.mono ?_
  rintro e w2 ⟨rfl, hpq, gg⟩
  have S2 := Lib.hid (S1.out.call hpq gg)
  clear hpq gg N S1
  have zk := S2.out.k.lt
  have fk := fun i => S2.out.k.frozen i
  have kk := S2.out.k.cell 0
  simp only [List.getElem?_toArray, List.getElem?_cons_zero, List.getElem?_cons_succ] at kk
  obtain ⟨w3, hw⟩ : ∃ v, v = w2.setCell ⟨gm, 0, none⟩ (.bool true) := ⟨_, rfl⟩
  have S3 := Lib.hid (show BStep w w3 G gp g B gm q1 #[.bool true, .int .u64 0, .int .u64 0, .int .u8 0] by rw [hw]; exact S2.out.put 0 (.bool true))
  cases hpn : pnum q1 with
  | none =>
    have HPB := Lib.hid (show pBegin p = .error 2 by unfold pBegin; rw [H1.out]; simp only [if_true]; rw [hpn])
    have N := Lib.hid (WNumO_no S3.out.p hpn)
    clear hpn
    go_upto_region 4 with (fail)
    rw [← hw]
    clear hw zk fk kk
    go_wp2_with fail
    refine N.out.mono ?_
    rintro e wx ⟨rfl, gx⟩
    refine ⟨rfl, ?_⟩
    show P9 _ _
    rw [HP.out]
    exact BeginTo.bad HPB.out (S3.out.fail gx) HR.out HNE.out
  | some r2 =>
    obtain ⟨id, q2⟩ := r2
    have HPB := Lib.hid (show pBegin p = .ok (⟨true, id, 0, 0⟩, q2) by unfold pBegin; rw [H1.out]; simp only [if_true]; rw [hpn])
    have N := Lib.hid (WNumO_ok S3.out.p hpn)
    clear hpn
    go_upto_region 4 with (fail)
    rw [← hw]
    clear hw zk fk kk
    go_wp2_with fail
    refine N.out.mono ?_
    rintro e w4 ⟨rfl, hpq, gg⟩
    have S4 := Lib.hid (S3.out.call hpq gg)
    clear hpq gg N S3
    have zk := S4.out.k.lt
    have fk := fun i => S4.out.k.frozen i
    have kk := S4.out.k.cell 1
    simp only [List.getElem?_toArray, List.getElem?_cons_zero, List.getElem?_cons_succ] at kk
    obtain ⟨w5, hw⟩ : ∃ v, v = w4.setCell ⟨gm, 1, none⟩ (.int .u64 id) := ⟨_, rfl⟩
    have S5 := Lib.hid (show BStep w w5 G gp g B gm q2 #[.bool true, .int .u64 id, .int .u64 0, .int .u8 0] by rw [hw]; exact S4.out.put 1 (.int .u64 id))
    go_upto_region 5 with (fail)
    rw [← hw]
    clear hw zk fk kk
    have k0 := S5.out.k.cell 0
    simp only [List.getElem?_toArray, List.getElem?_cons_zero, List.getElem?_cons_succ] at k0
    have zk := S5.out.k.lt
    have RT := Lib.hid (RB.there _ _ _ _ _ (S5.out.f.keep HR.out HNE.out))
    have hc4 : ((w5.setCells gr 0 [.bool true, .int .u64 id, .int .u64 0, .int .u8 0]).cell? ⟨gr, 4, none⟩).isSome = true := by
      apply World.isSome_setCells
      rw [(S5.out.f.keep HR.out HNE.out).cell]; rfl
    obtain ⟨v4, hv4⟩ := Option.isSome_iff_exists.1 hc4
    have hf4 : (w5.setCells gr 0 [.bool true, .int .u64 id, .int .u64 0, .int .u8 0]).frozen? ⟨gr, 4, none⟩ = false := by
      rw [World.frozen?_setCells]; exact (S5.out.f.keep HR.out HNE.out).frozen 4
    go_wp2_with (first
      | refine wpList_load_row rfl 53 (.tmp 4) rfl gm rfl 53 _ (0, 0) _ S5.out.k Tryd.underlying53 rfl (by kernel_rfl) ?_
      | refine wpList_store_mid rfl 53 (.tmp 35) (.tmp 33) rfl gr 0 _ rfl rfl RT.out (by kernel_rfl) (by simp [Value.oneCell']) ?_)
    refine bodyPost_end (v := .tuple #[]) (results_none (by rfl) _ _ _) (by rfl) ?_
    show P9 _ _
    rw [HP.out]
    exact HFIN.out _ _ _ _ _ _ S5.out HPB.out
end Go.Proofs.YtpaglcojbcndoaaDoor
