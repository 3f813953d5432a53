/-
  item.ReadGram for every input (made by mkItemD.py).
-/
import Derived.Test.YtpaglcojbcndoaaDoorItemC
import Derived.Deep.DeepCutAuto
import Derived.Deep.RegionHeld
import Derived.Deep.MidRow
namespace Go.Proofs.YtpaglcojbcndoaaDoor
open Go.RowKit
set_option linter.unusedVariables false
set_option linter.unusedSimpArgs false
theorem PNewB_any (A : Option Addr) (c B : Nat) (p : List Int) (L : Int) (w : World) (h : SlB w B A c p) (hB : B ≤ w.heap.size) (hb : Bytes p) (hl : p.length ≤ 70368744177664) :
    Calls Tryd.prog 27 #[.slice A p.length c, .int .i64 L] w fun r w' => ∃ gp g, r = .returned (.pointer (some ⟨gp, 0, none⟩)) ∧ Prs w' gp g B p L ∧ w.heap.size ≤ g ∧ w.heap.size ≤ gp ∧ Below w.heap.size w w' := by
  have CN : Calls Tryd.prog 46 #[.slice A p.length c] w fun r w' => ∃ g, r = .returned (.pointer (some ⟨g, 0, none⟩)) ∧ Rdr w' g B p 0 ∧ w.heap.size ≤ g ∧ Below w.heap.size w w' := by
    have H := Lib.hid h
    have HB := Lib.hid hb
    clear h hb
    go_enter Tryd.func46, Tryd.ntmps46
    go_wp2
    go_ret
    refine ⟨_, rfl, Rdr.mk_ (A := A) (c := c) (n := p.length) (Blk.new w _ _) rfl ⟨Reads.alloc H.out.rd hB _, H.out.le, H.out.max, H.out.nil⟩ HB.out hB hl, Nat.le_refl _, (Below.refl _ _).alloc (Nat.le_refl _) _⟩
  have C := Lib.hid CN
  clear h hb CN
  go_enter Tryd.func27, Tryd.ntmps27
  go_wp2_with fail
  refine C.out.mono ?_
  rintro e w1 ⟨g, rfl, hr, hg, hb1⟩
  have R := Lib.hid hr
  have BB := Lib.hid hb1
  have hz := hb1.size
  clear hr hb1
  go_wp2_with fail
  go_ret
  exact ⟨w1.heap.size, g, rfl, ⟨Blk.new _ _ _, R.out.below ((Below.refl _ _).alloc (Nat.le_refl _) _), by omega⟩, hg, hz, BB.out.alloc hz _⟩
theorem BxG.setA {w wr : World} {al : Value} {oc : Array Value} (h : BxG w wr al oc) (v : Value) : BxG w (wr.setCell ⟨w.heap.size, 0, none⟩ v) v oc :=
  ⟨by have := h.a.set_ 0 v; simpa using this, h.o.far (p := ⟨w.heap.size, 0, none⟩) (by show w.heap.size + 1 ≠ w.heap.size; omega) v, h.sz, h.e.far (p := ⟨w.heap.size, 0, none⟩) (by show w.heap.size + 2 ≠ w.heap.size; omega) v, h.bel.setCell (p := ⟨w.heap.size, 0, none⟩) (Nat.le_refl _) v⟩
theorem BxG.setO {w wr : World} {al : Value} {oc : Array Value} (h : BxG w wr al oc) (i : Nat) (v : Value) : BxG w (wr.setCell ⟨w.heap.size + 1, i, none⟩ v) al (oc.setIfInBounds i v) :=
  ⟨h.a.far (p := ⟨w.heap.size + 1, i, none⟩) (by show w.heap.size ≠ w.heap.size + 1; omega) v, h.o.set_ i v, by simp [h.sz], h.e.far (p := ⟨w.heap.size + 1, i, none⟩) (by show w.heap.size + 2 ≠ w.heap.size + 1; omega) v, h.bel.setCell (p := ⟨w.heap.size + 1, i, none⟩) (by show w.heap.size ≤ w.heap.size + 1; omega) v⟩
theorem BxG.setR {w wr : World} {al : Value} {oc : Array Value} (h : BxG w wr al oc) : BxG w (wr.setRow (w.heap.size + 1) oc) al oc :=
  ⟨setRow_farI h.a (by omega) oc, setRowI h.o oc, h.sz, setRow_farI h.e (by omega) oc, ⟨h.bel.os, h.bel.tape, h.bel.output, by simpa using h.bel.size, fun i hi => (setRow_other wr (w.heap.size + 1) i oc (by omega)).trans (h.bel.block i hi)⟩⟩
theorem BxG.setE {w wr : World} {al : Value} {oc : Array Value} (h : BxG w wr al oc) : BxG w (wr.setCell ⟨w.heap.size + 2, 0, none⟩ (.int .i64 0)) al oc :=
  ⟨h.a.far (p := ⟨w.heap.size + 2, 0, none⟩) (by show w.heap.size ≠ w.heap.size + 2; omega) _, h.o.far (p := ⟨w.heap.size + 2, 0, none⟩) (by show w.heap.size + 1 ≠ w.heap.size + 2; omega) _, h.sz, by have := h.e.set_ 0 (.int .i64 0); simpa using this, h.bel.setCell (p := ⟨w.heap.size + 2, 0, none⟩) (by show w.heap.size ≤ w.heap.size + 2; omega) _⟩
/-- What ReadGram answers. -/
structure GramR (w w' : World) (p : List Int) (r : Ending) : Prop where
  ok : ∀ al o, prG p = some (al, o) → ∃ A c, r = .returned (.tuple #[.int .u64 al, .agg (ovC o A c), .int .i64 0]) ∧ Own w' w.heap.size A c o.data
  no : prG p = none → r = .returned (.tuple #[.int .u64 0, .agg zeroO, .int .i64 4])
  bel : Below w.heap.size w w'
theorem gram_dies (tmps : Array Value) (w wr : World) (al : Value) (oc : Array Value) (p : List Int) (hb : BxG w wr al oc) (h2 : tmps.getD 2 undef = .pointer (some ⟨w.heap.size, 0, none⟩)) (h3 : tmps.getD 3 undef = .pointer (some ⟨w.heap.size + 1, 0, none⟩)) (h4 : tmps.getD 4 undef = .pointer (some ⟨w.heap.size + 2, 0, none⟩)) (hp : prG p = none) :
    Leaves Tryd.prog Tryd.f12 tmps (fun r w' => GramR w w' p r) [{ target := .fn (.func 26) #[.pointer (some ⟨w.heap.size, 0, none⟩), .pointer (some ⟨w.heap.size + 1, 0, none⟩), .pointer (some ⟨w.heap.size + 2, 0, none⟩)], args := #[] }] (.panicking [{ v := .iface 32 (.int .i64 4), recovered := false }]) wr := by
  refine leaves_cons (f := 26) (args := #[.pointer (some ⟨w.heap.size, 0, none⟩), .pointer (some ⟨w.heap.size + 1, 0, none⟩), .pointer (some ⟨w.heap.size + 2, 0, none⟩)]) (by simp) (by simp [go_sem]) ?_
  refine (catch_panicking w.heap.size (w.heap.size + 1) (w.heap.size + 2) oc _ _ 4 [] wr hb.a hb.o hb.sz hb.e (by omega) (by omega) (by omega)).mono ?_
  rintro e u' w'' ⟨rfl, rfl, hC⟩
  have c1 := hC.a.cell 0
  have c2 := hC.e.cell 0
  simp at c1 c2
  have hbel : Below w.heap.size w w'' := hb.bel.trans (hC.fr.below hb.bel.size (fun b hb2 hs => by omega))
  refine ⟨_, results_gram tmps w'' w.heap.size (w.heap.size + 1) (w.heap.size + 2) zeroO _ _ h2 h3 h4 c1 hC.o rfl c2, ?_, ?_, hbel⟩
  · intro al o h; rw [hp] at h; cases h
  · intro _; rfl
set_option maxHeartbeats 6400000 in
set_option maxRecDepth 100000 in
theorem ReadGram_any (A : Option Addr) (c : Nat) (p : List Int) (w : World) (h : Sl w A c p) (hb : Bytes p) (hl : p.length ≤ 70368744177664) :
    Calls Tryd.prog 12 #[.slice A p.length c] w fun r w' => GramR w w' p r := by
  have hmf : ∀ (fn : Fn) (first cap : Array Value) (w : World), (Instr.makeFunc fn first cap).run Tryd.prog w = .ok (.func fn first cap) w := fun _ _ _ _ => rfl
  obtain ⟨W, hW⟩ : ∃ W, W = ((w.alloc (.cells #[.int .u64 0] 22)).alloc (.cells zeroO 27)).alloc (.cells #[.int .i64 0] 32) := ⟨_, rfl⟩
  have b1 : Below w.heap.size w W := by rw [hW]; exact (((Below.refl _ _).alloc (Nat.le_refl _) _).alloc (by simp) _).alloc (by simp; omega) _
  have hzW : W.heap.size = w.heap.size + 3 := by rw [hW]; simp
  have BX := Lib.hid (show BxG w W (.int .u64 0) zeroO from ⟨by rw [hW]; exact ((Blk.new _ _ _).alloc _).alloc _, by
    rw [hW]
    have := (Blk.new (w.alloc (.cells #[.int .u64 0] 22)) 27 zeroO).alloc (.cells #[.int .i64 0] 32)
    simpa using this, rfl, by
    rw [hW]
    have := Blk.new ((w.alloc (.cells #[.int .u64 0] 22)).alloc (.cells zeroO 27)) 32 #[.int .i64 0]
    simpa using this, b1⟩)
  have C := Lib.hid (PNewB_any A c w.heap.size p 4 W ⟨Reads.below h.rd b1, h.le, h.max, h.nil⟩ b1.size hb hl)
  have HZ := Lib.hid hzW
  have HBY := Lib.hid hb
  unfold zeroO at hW
  have HW := Lib.hid hW
  clear h hb hW b1 hzW
  go_enter_defers Tryd.func12, Tryd.ntmps12
  go_wp2_with fail
  rw [← HW.out]
  refine C.out.mono ?_
  rintro e w1 ⟨gp, g, rfl, hp1, hg, hgp, hb1⟩
  have hg3 : w.heap.size + 3 ≤ g := by have := HZ.out; omega
  have hgp3 : w.heap.size + 3 ≤ gp := by have := HZ.out; omega
  have BX1 := Lib.hid (BX.out.below (by rw [← HZ.out]; exact hb1))
  have hz1 : w.heap.size + 3 ≤ w1.heap.size := by have := HZ.out; have := hb1.size; omega
  have P1 := Lib.hid hp1
  clear hp1 hb1 C
  cases hpn : pnum p with
  | none =>
    have N := Lib.hid (WNum_no P1.out hpn)
    have HR := Lib.hid (show prG p = none by unfold prG; rw [hpn])
    clear hpn
    go_wp2_with fail
    refine N.out.mono ?_
    rintro e w2 ⟨rfl, gg⟩
    exact gram_dies _ w w2 _ _ p (BX1.out.below (row_below3I gg hg3 hz1)) rfl rfl rfl HR.out
  | some r1 =>
    obtain ⟨m, q1⟩ := r1
    have H1 := Lib.hid hpn
    have N := Lib.hid (WNum_ok P1.out hpn)
    go_wp2_with fail
    refine N.out.mono ?_
    rintro e w2 ⟨rfl, hpq, gg⟩
    have BX2 := Lib.hid (BX1.out.below (row_below3I gg hg3 hz1))
    have hz2 : w.heap.size + 3 ≤ w2.heap.size := Nat.le_trans hz1 gg.size
    have P2 := Lib.hid hpq
    clear hpq gg N
    clear hpn
    by_cases hm : m = 1
    · subst hm
      have M := Lib.hid (PMust_ok P2.out)
      go_wp2_with fail
      refine M.out.mono ?_
      rintro e w3 ⟨rfl, hp3, gg⟩
      have BX3 := Lib.hid (BX2.out.below (row_below3I gg hg3 hz2))
      have hz3 : w.heap.size + 3 ≤ w3.heap.size := Nat.le_trans hz2 gg.size
      have P3 := Lib.hid hp3
      clear hp3 gg M
      cases hpn : pnum q1 with
      | none =>
        have N := Lib.hid (WNum_no P3.out hpn)
        have HR := Lib.hid (show prG p = none by unfold prG; rw [H1.out]; simp only [if_true]; rw [hpn])
        clear hpn
        go_wp2_with fail
        refine N.out.mono ?_
        rintro e w4 ⟨rfl, gg⟩
        exact gram_dies _ w w4 _ _ p (BX3.out.below (row_below3I gg hg3 hz3)) rfl rfl rfl HR.out
      | some r2 =>
        obtain ⟨al, q2⟩ := r2
        have H2 := Lib.hid hpn
        have N := Lib.hid (WNum_ok P3.out hpn)
        go_wp2_with fail
        refine N.out.mono ?_
        rintro e w4 ⟨rfl, hpq, gg⟩
        have BX4 := Lib.hid (BX3.out.below (row_below3I gg hg3 hz3))
        have hz4 : w.heap.size + 3 ≤ w4.heap.size := Nat.le_trans hz3 gg.size
        have P4 := Lib.hid hpq
        clear hpq gg N
        clear hpn
        have ac := BX4.out.a.cell 0
        have af := BX4.out.a.frozen 0
        have az := BX4.out.a.lt
        have oc := BX4.out.o.cell 3
        have of := BX4.out.o.frozen 3
        have oz := BX4.out.o.lt
        simp only [List.getElem?_toArray, List.getElem?_cons_zero, List.getElem?_cons_succ, zeroO] at ac oc
        obtain ⟨w5, hw⟩ : ∃ v, v = ((w4.setCell ⟨w.heap.size, 0, none⟩ (.int .u64 al)).setCell ⟨w.heap.size + 1, 3, none⟩ (.bool true)) := ⟨_, rfl⟩
        have BX5 := Lib.hid (show BxG w w5 (.int .u64 al) #[.int .u64 0, .int .u64 0, .int .u8 0, .bool true, .slice none 0 0] by rw [hw]; have := ((BX4.out).setA (.int .u64 al)).setO 3 (.bool true); simpa [zeroO] using this)
        have P5 := Lib.hid (show Prs w5 gp g w.heap.size _ 4 by rw [hw]; exact ((P4.out).set_ (gm := w.heap.size) (by omega) (by omega) (by omega) 0 (.int .u64 al)).set_ (gm := w.heap.size + 1) (by omega) (by omega) (by omega) 3 (.bool true))
        have hz5 : w.heap.size + 3 ≤ w5.heap.size := by rw [hw]; simpa [World.setCell] using hz4
        cases hpn : pnum q2 with
        | none =>
          have N := Lib.hid (WNum_no P5.out hpn)
          have HR := Lib.hid (show prG p = none by unfold prG; rw [H1.out]; simp only [if_true]; rw [H2.out]; simp only; rw [hpn])
          clear hpn
          go_upto_region 6 with (fail)
          rw [← hw]
          clear hw ac af az oc of oz
          go_wp2_with fail
          refine N.out.mono ?_
          rintro e w6 ⟨rfl, gg⟩
          exact gram_dies _ w w6 _ _ p (BX5.out.below (row_below3I gg hg3 hz5)) rfl rfl rfl HR.out
        | some r3 =>
          obtain ⟨gr, q3⟩ := r3
          have H3 := Lib.hid hpn
          have N := Lib.hid (WNum_ok P5.out hpn)
          clear hpn
          go_upto_region 6 with (fail)
          rw [← hw]
          clear hw ac af az oc of oz
          go_wp2_with fail
          refine N.out.mono ?_
          rintro e w6 ⟨rfl, hpq, gg⟩
          have BX6 := Lib.hid (BX5.out.below (row_below3I gg hg3 hz5))
          have hz6 : w.heap.size + 3 ≤ w6.heap.size := Nat.le_trans hz5 gg.size
          have P6 := Lib.hid hpq
          clear hpq gg N
          have oc := BX6.out.o.cell 0
          have of := BX6.out.o.frozen 0
          have oz := BX6.out.o.lt
          simp only [List.getElem?_toArray, List.getElem?_cons_zero, List.getElem?_cons_succ, zeroO] at oc
          obtain ⟨w7, hw⟩ : ∃ v, v = (w6.setCell ⟨w.heap.size + 1, 0, none⟩ (.int .u64 gr)) := ⟨_, rfl⟩
          have BX7 := Lib.hid (show BxG w w7 (.int .u64 al) #[.int .u64 gr, .int .u64 0, .int .u8 0, .bool true, .slice none 0 0] by rw [hw]; have := (BX6.out).setO 0 (.int .u64 gr); simpa [zeroO] using this)
          have P7 := Lib.hid (show Prs w7 gp g w.heap.size _ 4 by rw [hw]; exact (P6.out).set_ (gm := w.heap.size + 1) (by omega) (by omega) (by omega) 0 (.int .u64 gr))
          have hz7 : w.heap.size + 3 ≤ w7.heap.size := by rw [hw]; simpa [World.setCell] using hz6
          cases hpn : pnum q3 with
          | none =>
            have N := Lib.hid (WNum_no P7.out hpn)
            have HR := Lib.hid (show prG p = none by unfold prG; rw [H1.out]; simp only [if_true]; rw [H2.out]; simp only; rw [H3.out]; simp only; rw [hpn])
            clear hpn
            go_upto_region 7 with (fail)
            rw [← hw]
            clear hw oc of oz
            go_wp2_with fail
            refine N.out.mono ?_
            rintro e w8 ⟨rfl, gg⟩
            exact gram_dies _ w w8 _ _ p (BX7.out.below (row_below3I gg hg3 hz7)) rfl rfl rfl HR.out
          | some r4 =>
            obtain ⟨ob, q4⟩ := r4
            have H4 := Lib.hid hpn
            have N := Lib.hid (WNum_ok P7.out hpn)
            clear hpn
            go_upto_region 7 with (fail)
            rw [← hw]
            clear hw oc of oz
            go_wp2_with fail
            refine N.out.mono ?_
            rintro e w8 ⟨rfl, hpq, gg⟩
            have BX8 := Lib.hid (BX7.out.below (row_below3I gg hg3 hz7))
            have hz8 : w.heap.size + 3 ≤ w8.heap.size := Nat.le_trans hz7 gg.size
            have P8 := Lib.hid hpq
            clear hpq gg N
            have oc := BX8.out.o.cell 1
            have of := BX8.out.o.frozen 1
            have oz := BX8.out.o.lt
            simp only [List.getElem?_toArray, List.getElem?_cons_zero, List.getElem?_cons_succ, zeroO] at oc
            obtain ⟨w9, hw⟩ : ∃ v, v = (w8.setCell ⟨w.heap.size + 1, 1, none⟩ (.int .u64 ob)) := ⟨_, rfl⟩
            have BX9 := Lib.hid (show BxG w w9 (.int .u64 al) #[.int .u64 gr, .int .u64 ob, .int .u8 0, .bool true, .slice none 0 0] by rw [hw]; have := (BX8.out).setO 1 (.int .u64 ob); simpa [zeroO] using this)
            have P9 := Lib.hid (show Prs w9 gp g w.heap.size _ 4 by rw [hw]; exact (P8.out).set_ (gm := w.heap.size + 1) (by omega) (by omega) (by omega) 1 (.int .u64 ob))
            have hz9 : w.heap.size + 3 ≤ w9.heap.size := by rw [hw]; simpa [World.setCell] using hz8
            rcases q4 with _ | ⟨x, d⟩
            · have N := Lib.hid (PByte_no P9.out)
              have HR := Lib.hid (show prG p = none by unfold prG; rw [H1.out]; simp only [if_true]; rw [H2.out]; simp only; rw [H3.out]; simp only; rw [H4.out])
              go_upto_region 8 with (fail)
              rw [← hw]
              clear hw oc of oz
              go_wp2_with fail
              refine N.out.mono ?_
              rintro e w10 ⟨rfl, gg⟩
              exact gram_dies _ w w10 _ _ p (BX9.out.below (row_below3I gg hg3 hz9)) rfl rfl rfl HR.out
            · have N := Lib.hid (PByte_ok P9.out)
              go_upto_region 8 with (fail)
              rw [← hw]
              clear hw oc of oz
              go_wp2_with fail
              refine N.out.mono ?_
              rintro e w10 ⟨rfl, hpq, gg⟩
              have BX10 := Lib.hid (BX9.out.below (row_below3I gg hg3 hz9))
              have hz10 : w.heap.size + 3 ≤ w10.heap.size := Nat.le_trans hz9 gg.size
              have P10 := Lib.hid hpq
              clear hpq gg N
              have oc := BX10.out.o.cell 2
              have of := BX10.out.o.frozen 2
              have oz := BX10.out.o.lt
              simp only [List.getElem?_toArray, List.getElem?_cons_zero, List.getElem?_cons_succ, zeroO] at oc
              obtain ⟨w11, hw⟩ : ∃ v, v = (w10.setCell ⟨w.heap.size + 1, 2, none⟩ (.int .u8 x)) := ⟨_, rfl⟩
              have BX11 := Lib.hid (show BxG w w11 (.int .u64 al) #[.int .u64 gr, .int .u64 ob, .int .u8 x, .bool true, .slice none 0 0] by rw [hw]; have := (BX10.out).setO 2 (.int .u8 x); simpa [zeroO] using this)
              have P11 := Lib.hid (show Prs w11 gp g w.heap.size _ 4 by rw [hw]; exact (P10.out).set_ (gm := w.heap.size + 1) (by omega) (by omega) (by omega) 2 (.int .u8 x))
              have hz11 : w.heap.size + 3 ≤ w11.heap.size := by rw [hw]; simpa [World.setCell] using hz10
              have LF := Lib.hid (PLeft_any P11.out)
              have HPR := Lib.hid (show prG p = if d.length ≤ 2048 then some (al, ⟨gr, ob, x, true, d⟩) else none by unfold prG; rw [H1.out]; simp only [if_true]; rw [H2.out]; simp only; rw [H3.out]; simp only; rw [H4.out])
              go_upto_region 9 with (fail)
              rw [← hw]
              clear hw oc of oz
              go_wp2_with fail
              refine LF.out.mono ?_
              rintro e w12 ⟨A8, c8, rfl, s8, hw12⟩
              subst hw12
              clear LF
              by_cases hd : d.length ≤ 2048
              · have M := Lib.hid (PMust_ok P11.out)
                have hd1 : decide ((d.length : Int) ≤ 2048) = true := by simp; omega
                have HR := Lib.hid (show prG p = some (al, ⟨gr, ob, x, true, d⟩) by rw [HPR.out, if_pos hd])
                go_wp2_with fail
                refine M.out.mono ?_
                rintro e w12 ⟨rfl, hpq, gg⟩
                have BX12 := Lib.hid (BX11.out.below (row_below3I gg hg3 hz11))
                have hz12 : w.heap.size + 3 ≤ w12.heap.size := Nat.le_trans hz11 gg.size
                have P12 := Lib.hid hpq
                have LF := Lib.hid (PLeft_any hpq)
                clear hpq gg M s8
                go_wp2_with fail
                refine LF.out.mono ?_
                rintro e w13 ⟨A9, c9, rfl, s9, hw13⟩
                subst hw13
                have hA9 : A9 = none → d = [] ∧ c9 = 0 := fun e => by
                  have h1 := s9.nil e
                  have h2 := s9.le
                  exact ⟨List.eq_nil_of_length_eq_zero (by omega), h1⟩
                have CLN := Lib.hid (clone_any A9 c9 d w12 (s9.rd_ (by have := P12.out.rd.le; omega)) (by omega) hA9)
                clear LF s9 hA9
                go_wp2_with fail
                refine CLN.out.mono ?_
                rintro e w13 ⟨A10, c10, rfl, o10, b10⟩
                have BX13 := Lib.hid (BX12.out.below (b10.mono hz12))
                have O13 := Lib.hid o10
                have hz13 : w.heap.size + 3 ≤ w13.heap.size := Nat.le_trans hz12 b10.size
                clear b10 o10 CLN P12
                have oc := BX13.out.o.cell 4
                have of := BX13.out.o.frozen 4
                have oz := BX13.out.o.lt
                simp only [List.getElem?_toArray, List.getElem?_cons_zero, List.getElem?_cons_succ, zeroO] at oc
                have w14e : True := trivial
                obtain ⟨w14, hw⟩ : ∃ v, v = (w13.setCell ⟨w.heap.size + 1, 4, none⟩ (.slice A10 d.length c10)) := ⟨_, rfl⟩
                obtain ⟨MC, hMC⟩ : ∃ MC, MC = ovC ⟨gr, ob, x, true, d⟩ A10 c10 := ⟨_, rfl⟩
                have BX14 := Lib.hid (show BxG w w14 (.int .u64 al) MC by rw [hw, hMC]; exact BX13.out.setO 4 (.slice A10 d.length c10))
                have F14 := Lib.hid (show Frm w13 w14 (fun b => b < w.heap.size + 3) by rw [hw]; exact Frm.set (Frm.refl w13 _) (p := ⟨w.heap.size + 1, 4, none⟩) (Or.inr (by show w.heap.size + 1 < w.heap.size + 3; omega)) _)
                have HMC := Lib.hid hMC
                have HM1 := Lib.hid (show MC.all (·.oneCell') = true by rw [hMC]; simp [ovC, Value.oneCell'])
                have HMS := Lib.hid (show (Tryd.prog.info? 27).map (·.size) = some MC.size by rw [hMC]; exact info_obj)
                clear hMC w14e
                go_upto_region 11 with (fail)
                rw [← hw]
                clear hw oc of oz
                refine wp_region_noPanic ?_
                refine wp_region_held_drew (S := fun w' => BxG w w' (.int .u64 al) MC) (by kernel_rfl) (BX14.out.below (Below.refl _ _).drew) (fun s0 => ?_)
                refine wpAnyH_take (i := 0) (oi := ⟨_, _, _, _, _, _⟩) (v := .int .u64 al) rfl (by kernel_rfl) (by kernel_rfl) (by kernel_rfl) (fun _ _ _ h => h) (Or.inl ⟨by rfl, fun w' hS => by have c := (hS : BxG w w' (.int .u64 al) MC).a.cell 0; simp at c; go_simp⟩) s0 ?_
                simp only [Act.put, List.setIfInBounds_toArray, List.set_cons_zero, List.set_cons_succ]
                refine wpAnyH_take (i := 1) (oi := ⟨_, _, _, _, _, _⟩) (v := .agg MC.toList.toArray) rfl (by kernel_rfl) (by kernel_rfl) (by kernel_rfl) (fun _ _ _ h => h) (yieldsIf_load_mid (by rfl) 27 (.tmp 3) rfl (w.heap.size + 1) 0 rfl MC.toList _ (fun w' hS => range_blkI (hS : BxG w w' (.int .u64 al) MC).o) Tryd.underlying27 rfl (by rw [Array.length_toList]; exact HMS.out)) s0 ?_
                simp only [Act.put, List.setIfInBounds_toArray, List.set_cons_zero, List.set_cons_succ]
                rw [Array.toArray_toList]
                have F15 := Lib.hid F14.out.drew
                obtain ⟨w15, hw⟩ : ∃ v, v = w14.drew := ⟨_, rfl⟩
                rw [← hw] at s0 F15 ⊢
                clear hw BX14 F14
                have BX15 := Lib.hid s0
                have ac := BX15.out.a.cell 0
                have af := BX15.out.a.frozen 0
                have az := BX15.out.a.lt
                simp at ac
                refine wpAnyH_ready (rs := [2]) (by kernel_rfl) (by simp) ?_
                refine AllReadyH.cons rfl (fun K hK => ?_) AllReadyH.nil
                go_simp
                have BX16 := Lib.hid (BX15.out.setA (.int .u64 al))
                have F16 := Lib.hid (Frm.set F15.out (p := ⟨w.heap.size, 0, none⟩) (Or.inr (by show w.heap.size < w.heap.size + 3; omega)) (.int .u64 al))
                refine hK.out _ _ BX16.out (fun s2 => ?_)
                clear hK K s0 ac af az
                obtain ⟨w16, hw⟩ : ∃ v, v = (w15.setCell ⟨w.heap.size, 0, none⟩ (.int .u64 al)) := ⟨_, rfl⟩
                rw [← hw] at s2 BX16 F16 ⊢
                clear hw
                refine wpAnyH_ready (rs := [3]) (by kernel_rfl) (by simp) ?_
                refine AllReadyH.cons rfl (fun K hK => ?_) AllReadyH.nil
                rw [if_pos (by rfl)]
                refine wp_store_row 27 (.tmp 3) (.tmp 39) rfl (w.heap.size + 1) MC rfl rfl 27 _ BX16.out.o HMS.out rfl HM1.out ?_
                simp only [List.getElem_toArray, List.getElem_cons_succ, List.getElem_cons_zero, Act.put, List.setIfInBounds_toArray, List.set_cons_succ, List.set_cons_zero]
                have BX17 := Lib.hid (BX16.out.setR)
                have F17 := Lib.hid (Frm.trans F16.out (show Frm w16 (w16.setRow (w.heap.size + 1) MC) (fun b => b < w.heap.size + 3) from ⟨rfl, rfl, rfl, by simp, fun b hb hn => setRow_other _ (w.heap.size + 1) b MC (fun e => hn (by omega))⟩))
                refine hK.out _ _ BX17.out (fun s3 => ?_)
                clear hK K s2
                obtain ⟨w17, hw⟩ : ∃ v, v = w16.setRow (w.heap.size + 1) MC := ⟨_, rfl⟩
                rw [← hw] at s3 BX17 F17 ⊢
                clear hw
                have ac := BX17.out.e.cell 0
                have af := BX17.out.e.frozen 0
                have az := BX17.out.e.lt
                simp at ac
                refine wpAnyH_ready (rs := [4]) (by kernel_rfl) (by simp) ?_
                refine AllReadyH.cons rfl (fun K hK => ?_) AllReadyH.nil
                go_simp
                have BX18 := Lib.hid (BX17.out.setE)
                have F18 := Lib.hid (Frm.set F17.out (p := ⟨w.heap.size + 2, 0, none⟩) (Or.inr (by show w.heap.size + 2 < w.heap.size + 3; omega)) (.int .i64 0))
                refine hK.out _ _ BX18.out (fun s4 => ?_)
                clear hK K s3 ac af az
                obtain ⟨w18, hw⟩ : ∃ v, v = (w17.setCell ⟨w.heap.size + 2, 0, none⟩ (.int .i64 0)) := ⟨_, rfl⟩
                rw [← hw] at s4 BX18 F18 ⊢
                clear hw
                refine wpAnyH_done (by kernel_rfl) (NoPanic.normal ?_) _
                go_wp2_with fail
                refine leaves_cons (f := 26) (args := #[.pointer (some ⟨w.heap.size, 0, none⟩), .pointer (some ⟨w.heap.size + 1, 0, none⟩), .pointer (some ⟨w.heap.size + 2, 0, none⟩)]) (by simp) (by simp [go_sem]) ?_
                refine (catch_idle ⟨w.heap.size, 0, none⟩ ⟨w.heap.size + 1, 0, none⟩ ⟨w.heap.size + 2, 0, none⟩ _).mono ?_
                rintro e u' w'' ⟨rfl, rfl, rfl⟩
                have c1 := BX18.out.a.cell 0
                have c2 := BX18.out.e.cell 0
                simp at c1 c2
                refine ⟨_, results_gram _ _ w.heap.size (w.heap.size + 1) (w.heap.size + 2) MC _ _ rfl rfl rfl c1 BX18.out.o BX18.out.sz c2, ?_, ?_, BX18.out.bel⟩
                · intro al' o' h
                  rw [HR.out] at h
                  injection h with h
                  injection h with h1 h2
                  subst h1 h2
                  exact ⟨A10, c10, by rw [HMC.out], Own.base_leI (OwnV.frm (show OwnV w13 w12.heap.size 5 1 A10 c10 d.length (U8 d) from O13.out) F18.out (fun kk hk hs => by have := OwnV.row_ge (show OwnV w13 w12.heap.size 5 1 A10 c10 d.length (U8 d) from O13.out) kk hk; omega)) (by omega)⟩
                · intro h
                  rw [HR.out] at h
                  cases h
              · have M := Lib.hid (PMust_no P11.out)
                have hd1 : decide ((d.length : Int) ≤ 2048) = false := by simp; omega
                have HR := Lib.hid (show prG p = none by rw [HPR.out, if_neg hd])
                go_wp2_with fail
                refine M.out.mono ?_
                rintro e w12 ⟨rfl, gg⟩
                exact gram_dies _ w w12 _ _ p (BX11.out.below (row_below3I gg hg3 hz11)) rfl rfl rfl HR.out
    · have M := Lib.hid (PMust_no P2.out)
      have hm1 : (m == 1) = false := by simpa using hm
      have HR := Lib.hid (show prG p = none by unfold prG; rw [H1.out]; simp only; rw [if_neg hm])
      go_wp2_with fail
      refine M.out.mono ?_
      rintro e w3 ⟨rfl, gg⟩
      exact gram_dies _ w w3 _ _ p (BX2.out.below (row_below3I gg hg3 hz2)) rfl rfl rfl HR.out
end Go.Proofs.YtpaglcojbcndoaaDoor
