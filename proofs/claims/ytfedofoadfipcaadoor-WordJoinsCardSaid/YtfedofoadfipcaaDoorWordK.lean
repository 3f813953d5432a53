/-
  word.Read, by value.
-/
import Derived.Test.YtfedofoadfipcaaDoorWordI
import Derived.Test.YtfedofoadfipcaaDoorWordJ
import Derived.Deep.RegionHeld
import Derived.Deep.MidRow
import Derived.Deep.RegionHeld3
namespace Go.Proofs.YtfedofoadfipcaaDoor
open Go.RowKit
set_option linter.unusedVariables false
set_option linter.unusedSimpArgs false
def readW (p : List Int) : Except Int (MV × List Int) :=
  match pnum p with
  | none => .error 2
  | some (k, q) => if knW k then
      match q with
      | a :: b :: r => if r.length < (256 * a + b).toNat then .error 2 else match parseW k (r.take (256 * a + b).toNat) with
        | none => .error 4
        | some m => .ok (m, r.drop (256 * a + b).toNat)
      | _ => .error 2
    else .error 4
theorem load1_u8s (w : World) (g : Nat) (v : Value) (h : w.cell? ⟨g, 0, none⟩ = some v) : (loadVar 23 ⟨g, 0, none⟩).run Tryd.prog w = .ok v w := by
  simp [loadVar, go_sem, h]
theorem load1_err (w : World) (g : Nat) (v : Value) (h : w.cell? ⟨g, 0, none⟩ = some v) : (loadVar 32 ⟨g, 0, none⟩).run Tryd.prog w = .ok v w := by
  simp [loadVar, go_sem, h]
theorem results_read (tmps : Array Value) (w : World) (gm gr ge : Nat) (mc : Array Value) (v1 v2 : Value) (h2 : tmps.getD 2 undef = .pointer (some ⟨gm, 0, none⟩)) (h3 : tmps.getD 3 undef = .pointer (some ⟨gr, 0, none⟩)) (h4 : tmps.getD 4 undef = .pointer (some ⟨ge, 0, none⟩))
    (hm : Blk w gm 31 mc) (hs : mc.size = 16) (c1 : w.cell? ⟨gr, 0, none⟩ = some v1) (c2 : w.cell? ⟨ge, 0, none⟩ = some v2) :
    (results Tryd.f16 tmps).run Tryd.prog w = .ok (.tuple #[.agg mc, v1, v2]) w := by
  have hl := run_loadVar_row (P := Tryd.prog) w gm 31 31 mc (0, 0) _ hm Tryd.underlying31 rfl (by rw [hs]; exact info_msgJ)
  have l1 := load1_u8s w gr v1 c1
  have l2 := load1_err w ge v2 c2
  have h2' : tmps[2]?.getD undef = .pointer (some ⟨gm, 0, none⟩) := by simpa using h2
  have h3' : tmps[3]?.getD undef = .pointer (some ⟨gr, 0, none⟩) := by simpa using h3
  have h4' : tmps[4]?.getD undef = .pointer (some ⟨ge, 0, none⟩) := by simpa using h4
  simp only [results, show Tryd.f16.results = #[.cell 2 31, .cell 3 23, .cell 4 32] from rfl]
  simp [h2', h3', h4', asAddr, hl, l1, l2]
structure ReadTo (w w' : World) (p : List Int) (r : Ending) : Prop where
  ok : ∀ m q, readW p = .ok (m, q) → ∃ nA nc rA rc vA vc qA qc, r = .returned (.tuple #[.agg (mvC m nA nc rA rc vA vc), .slice qA q.length qc, .int .i64 0]) ∧ Own w' w.heap.size nA nc m.name ∧ Own w' w.heap.size rA rc m.reason ∧ OwnV w' w.heap.size 22 1 vA vc m.vers.length (IV .u64 m.vers) ∧ Own w' w.heap.size qA qc q
  no : ∀ e, readW p = .error e → r = .returned (.tuple #[.agg zeroM, .slice none 0 0, .int .i64 e])
  bel : Below w.heap.size w w'
/-- The three boxes at the beginning. -/
structure Bx (w wr : World) (mc : Array Value) : Prop where
  m : Blk wr w.heap.size 31 mc
  sz : mc.size = 16
  r : Blk wr (w.heap.size + 1) 23 #[.slice none 0 0]
  e : Blk wr (w.heap.size + 2) 32 #[.int .i64 0]
  bel : Below w.heap.size w wr
theorem Bx.below {w wr w' : World} {mc : Array Value} (h : Bx w wr mc) (hb : Below (w.heap.size + 3) wr w') : Bx w w' mc :=
  ⟨h.m.below hb (by omega), h.sz, h.r.below hb (by omega), h.e.below hb (by omega), h.bel.trans (hb.mono (by omega))⟩
/-- What the deferred function makes of a panic. -/
theorem read_dies (tmps : Array Value) (w wr : World) (mc : Array Value) (p : List Int) (x : Int) (hb : Bx w wr mc) (h2 : tmps.getD 2 undef = .pointer (some ⟨w.heap.size, 0, none⟩)) (h3 : tmps.getD 3 undef = .pointer (some ⟨w.heap.size + 1, 0, none⟩)) (h4 : tmps.getD 4 undef = .pointer (some ⟨w.heap.size + 2, 0, none⟩)) (hp : readW p = .error x) :
    Leaves Tryd.prog Tryd.f16 tmps (fun r w' => ReadTo w w' p r) [{ target := .fn (.func 31) #[.pointer (some ⟨w.heap.size, 0, none⟩), .pointer (some ⟨w.heap.size + 1, 0, none⟩), .pointer (some ⟨w.heap.size + 2, 0, none⟩)], args := #[] }] (.panicking [{ v := .iface 32 (.int .i64 x), recovered := false }]) wr := by
  refine leaves_cons (f := 31) (args := #[.pointer (some ⟨w.heap.size, 0, none⟩), .pointer (some ⟨w.heap.size + 1, 0, none⟩), .pointer (some ⟨w.heap.size + 2, 0, none⟩)]) (by simp) (by simp [go_sem]) ?_
  refine (catch_panicking w.heap.size (w.heap.size + 1) (w.heap.size + 2) mc _ _ x [] wr hb.m hb.sz hb.r hb.e (by omega) (by omega) (by omega)).mono ?_
  rintro e u' w'' ⟨rfl, rfl, hC⟩
  have c1 := hC.r.cell 0
  have c2 := hC.e.cell 0
  simp at c1 c2
  have hbel : Below w.heap.size w w'' := hb.bel.trans (hC.fr.below hb.bel.size (fun b hb2 hs => by omega))
  refine ⟨_, results_read tmps w'' w.heap.size (w.heap.size + 1) (w.heap.size + 2) zeroM _ _ h2 h3 h4 hC.m rfl c1 c2, ?_, ?_, hbel⟩
  · intro m q h; rw [hp] at h; cases h
  · intro e h; rw [hp] at h; injection h with h; subst h; rfl
theorem row_below3 {wr w' : World} {g N : Nat} (hg : wr.grownBy w' (some g)) (h : N ≤ g) (h2 : N ≤ wr.heap.size) : Below N wr w' :=
  ⟨hg.os, hg.tape, hg.output, hg.size, fun i hi => hg.block i (by omega) (fun e => by injection e with e; omega)⟩
theorem PNewB_any (A : Option Addr) (c B : Nat) (p : List Int) (L : Int) (w : World) (h : SlB w B A c p) (hB : B ≤ w.heap.size) (hb : Bytes p) (hl : p.length ≤ 70368744177664) :
    Calls Tryd.prog 32 #[.slice A p.length c, .int .i64 L] w fun r w' => ∃ gp g, r = .returned (.pointer (some ⟨gp, 0, none⟩)) ∧ Prs w' gp g B p L ∧ w.heap.size ≤ g ∧ w.heap.size ≤ gp ∧ Below w.heap.size w w' := by
  have CN : Calls Tryd.prog 51 #[.slice A p.length c] w fun r w' => ∃ g, r = .returned (.pointer (some ⟨g, 0, none⟩)) ∧ Rdr w' g B p 0 ∧ w.heap.size ≤ g ∧ Below w.heap.size w w' := by
    have H := Lib.hid h
    have HB := Lib.hid hb
    clear h hb
    go_enter Tryd.func51, Tryd.ntmps51
    go_wp2
    go_ret
    refine ⟨_, rfl, Rdr.mk_ (A := A) (c := c) (n := p.length) (Blk.new w _ _) rfl ⟨Reads.alloc H.out.rd hB _, H.out.le, H.out.max, H.out.nil⟩ HB.out hB hl, Nat.le_refl _, (Below.refl _ _).alloc (Nat.le_refl _) _⟩
  have C := Lib.hid CN
  clear h hb CN
  go_enter Tryd.func32, Tryd.ntmps32
  go_wp2_with fail
  refine C.out.mono ?_
  rintro e w1 ⟨g, rfl, hr, hg, hb1⟩
  have R := Lib.hid hr
  have BB := Lib.hid hb1
  have hz := hb1.size
  clear hr hb1
  go_wp2_with fail
  go_ret
  exact ⟨w1.heap.size, g, rfl, ⟨Blk.new _ _ _, R.out.below ((Below.refl _ _).alloc (Nat.le_refl _) _), by omega⟩, hg, hz, BB.out.alloc hz _⟩
theorem only_setRowK (w : World) (g : Nat) (cs : Array Value) : w.grownBy (w.setRow g cs) (some g) :=
  ⟨rfl, rfl, rfl, by simp, fun i hi hne => setRow_other w g i cs (fun e => hne (by rw [e]))⟩
theorem range_blk {w : World} {g : Nat} {t : TypeId} {cs : Array Value} (h : Blk w g t cs) : w.rangeAt g 0 cs.toList := fun j v hv => by
  rw [Nat.zero_add, h.cell j]
  simpa using hv
set_option maxHeartbeats 3200000 in
set_option maxRecDepth 100000 in
theorem Read_any (A : Option Addr) (c : Nat) (p : List Int) (w : World) (h : Sl w A c p) (hb : Bytes p) (hl : p.length ≤ 70368744177664) :
    Calls Tryd.prog 16 #[.slice A p.length c] w fun r w' => ReadTo w w' p r := by
  have hmf : ∀ (fn : Fn) (first cap : Array Value) (w : World), (Instr.makeFunc fn first cap).run Tryd.prog w = .ok (.func fn first cap) w := fun _ _ _ _ => rfl
  obtain ⟨W, hW⟩ : ∃ W, W = ((w.alloc (.cells zeroM 31)).alloc (.cells #[.slice none 0 0] 23)).alloc (.cells #[.int .i64 0] 32) := ⟨_, rfl⟩
  have b1 : Below w.heap.size w W := by rw [hW]; exact (((Below.refl _ _).alloc (Nat.le_refl _) _).alloc (by simp) _).alloc (by simp; omega) _
  have hzW : W.heap.size = w.heap.size + 3 := by rw [hW]; simp
  have BX := Lib.hid (show Bx w W zeroM from ⟨by rw [hW]; exact ((Blk.new _ _ _).alloc _).alloc _, rfl, by
    rw [hW]
    have := (Blk.new (w.alloc (.cells zeroM 31)) 23 #[.slice none 0 0]).alloc (.cells #[.int .i64 0] 32)
    simpa using this, by
    rw [hW]
    have := Blk.new ((w.alloc (.cells zeroM 31)).alloc (.cells #[.slice none 0 0] 23)) 32 #[.int .i64 0]
    simpa using this, b1⟩)
  have C := Lib.hid (PNewB_any A c w.heap.size p 2 W ⟨Reads.below h.rd b1, h.le, h.max, h.nil⟩ b1.size hb hl)
  have HZ := Lib.hid hzW
  have HBY := Lib.hid hb
  unfold zeroM mvC mv0 at hW
  simp only [List.length_nil] at hW
  have HW := Lib.hid hW
  clear h hb hW b1 hzW
  go_enter_defers Tryd.func16, Tryd.ntmps16
  go_wp2_with fail
  rw [← HW.out]
  refine C.out.mono ?_
  rintro e w1 ⟨gp, g, rfl, hp1, hg, hgp, hb1⟩
  have hg3 : w.heap.size + 3 ≤ g := by have := HZ.out; omega
  have hgp3 : w.heap.size + 3 ≤ gp := by have := HZ.out; omega
  have BX1 := Lib.hid (BX.out.below (by rw [← HZ.out]; exact hb1))
  have hz1 : w.heap.size + 3 ≤ w1.heap.size := by have := HZ.out; have := hb1.size; omega
  have P1 := Lib.hid hp1
  clear hp1 hb1 C
  have rd0 : readW p = (match pnum p with
    | none => .error 2
    | some (k, q) => if knW k then
      match q with
      | a :: b :: r => if r.length < (256 * a + b).toNat then .error 2 else match parseW k (r.take (256 * a + b).toNat) with
        | none => .error 4
        | some m => .ok (m, r.drop (256 * a + b).toNat)
      | _ => .error 2
    else .error 4) := rfl
  have RD := Lib.hid rd0
  clear rd0
  cases hpn : pnum p with
  | none =>
    have N := Lib.hid (WNum_no P1.out hpn)
    have hr : readW p = .error 2 := by rw [RD.out, hpn]
    have HR := Lib.hid hr
    clear hr hpn
    go_wp2_with fail
    refine N.out.mono ?_
    rintro e w2 ⟨rfl, g2⟩
    exact read_dies _ w w2 _ p 2 (BX1.out.below (row_below3 g2 hg3 hz1)) rfl rfl rfl HR.out
  | some kq =>
    obtain ⟨k, q⟩ := kq
    have N := Lib.hid (WNum_ok P1.out hpn)
    have hbq := (pnum_bd HBY.out hpn).2
    have rd1 := RD.out
    rw [hpn] at rd1
    simp only at rd1
    have RD1 := Lib.hid rd1
    have HBQ := Lib.hid hbq
    have K := Lib.hid (fun W => knownW_any k W)
    obtain ⟨kn, hkn⟩ : ∃ kn, kn = knW k := ⟨_, rfl⟩
    rw [← hkn] at K
    have HK := Lib.hid hkn
    clear rd1 hbq hpn RD hkn
    go_wp2_with fail
    refine N.out.mono ?_
    rintro e w2 ⟨rfl, hp2, g2⟩
    have BX2 := Lib.hid (BX1.out.below (row_below3 g2 hg3 hz1))
    have hz2 := Nat.le_trans hz1 g2.size
    have P2 := Lib.hid hp2
    clear hp2 g2 N
    go_wp2_with fail
    refine (K.out _).mono ?_
    rintro e w3 ⟨rfl, rfl⟩
    cases kn with
    | false =>
      have M := Lib.hid (PMust_no P2.out)
      have hr : readW p = .error 4 := by rw [RD1.out, ← HK.out]; rfl
      have HR := Lib.hid hr
      clear hr
      go_wp2_with fail
      refine M.out.mono ?_
      rintro e w4 ⟨rfl, g4⟩
      exact read_dies _ w w4 _ p 4 (BX2.out.below (row_below3 g4 hg3 hz2)) rfl rfl rfl HR.out
    | true =>
      have M := Lib.hid (PMust_ok P2.out)
      have rd2 := RD1.out
      rw [← HK.out, if_pos rfl] at rd2
      have RD2 := Lib.hid rd2
      clear rd2 RD1
      go_wp2_with fail
      refine M.out.mono ?_
      rintro e w4 ⟨rfl, hp4, g4⟩
      have BX4 := Lib.hid (BX2.out.below (row_below3 g4 hg3 hz2))
      have hz4 := Nat.le_trans hz2 g4.size
      have P4 := Lib.hid hp4
      clear hp4 g4 M P2 P1 BX1 BX2
      match q, HBQ, P4, RD2 with
      | [], HBQ, P4, RD2 =>
        have Y := Lib.hid (PByte_no P4.out)
        go_wp2_with fail
        refine Y.out.mono ?_
        rintro e w5 ⟨rfl, g5⟩
        exact read_dies _ w w5 _ p 2 (BX4.out.below (row_below3 g5 hg3 hz4)) rfl rfl rfl RD2.out
      | [a], HBQ, P4, RD2 =>
        have Y := Lib.hid (PByte_ok P4.out)
        go_wp2_with fail
        refine Y.out.mono ?_
        rintro e w5 ⟨rfl, hp5, g5⟩
        have BX5 := Lib.hid (BX4.out.below (row_below3 g5 hg3 hz4))
        have hz5 := Nat.le_trans hz4 g5.size
        have Y2 := Lib.hid (PByte_no hp5)
        clear hp5 g5
        go_wp2_with fail
        refine Y2.out.mono ?_
        rintro e w6 ⟨rfl, g6⟩
        exact read_dies _ w w6 _ p 2 (BX5.out.below (row_below3 g6 hg3 hz5)) rfl rfl rfl RD2.out
      | a :: b :: r, HBQ, P4, RD2 =>
        have Y := Lib.hid (PByte_ok P4.out)
        have ha := HBQ.out a (by simp)
        have hb := HBQ.out b (by simp)
        go_wp2_with fail
        refine Y.out.mono ?_
        rintro e w5 ⟨rfl, hp5, g5⟩
        have BX5 := Lib.hid (BX4.out.below (row_below3 g5 hg3 hz4))
        have hz5 := Nat.le_trans hz4 g5.size
        have Y2 := Lib.hid (PByte_ok hp5)
        clear hp5 g5 Y
        go_wp2_with fail
        refine Y2.out.mono ?_
        rintro e w6 ⟨rfl, hp6, g6⟩
        have BX6 := Lib.hid (BX5.out.below (row_below3 g6 hg3 hz5))
        have hz6 := Nat.le_trans hz5 g6.size
        have P6 := Lib.hid hp6
        clear hp6 g6 Y2
        obtain ⟨N, hN⟩ : ∃ N, N = (256 * a + b).toNat := ⟨_, rfl⟩
        have hor : bits .or .u64 (a * 256) b = (N : Int) := by
          have h1 := or_join a b (by omega) (by omega) (by omega) (by omega)
          rw [IntWalk.u64_in _ (by omega)] at h1
          rw [h1, hN]
          omega
        have hN64 : N ≤ 65535 := by omega
        have rd3 := RD2.out
        rw [← hN] at rd3
        have RD3 := Lib.hid rd3
        clear rd3 hN RD2
        by_cases hlt : r.length < N
        · have Y3 := Lib.hid (PBytes_no N P6.out hlt (by omega))
          have HR := Lib.hid (show readW p = .error 2 by rw [RD3.out, if_pos hlt])
          go_wp2_with fail
          refine Y3.out.mono ?_
          rintro e w7 ⟨rfl, g7⟩
          exact read_dies _ w w7 _ p 2 (BX6.out.below (row_below3 g7 hg3 hz6)) rfl rfl rfl HR.out
        · have Y3 := Lib.hid (PBytes_ok N P6.out (by omega))
          have rd4 := RD3.out
          rw [if_neg hlt] at rd4
          have RD4 := Lib.hid rd4
          have HBR := Lib.hid (show Bytes r from fun x hx => HBQ.out x (by simp [hx]))
          have hrl : r.length ≤ 70368744177664 := P6.out.rd.small
          clear rd4 RD3 P6
          go_wp2_with fail
          refine Y3.out.mono ?_
          rintro e w7 ⟨A7, c7, rfl, o7, hp7, g7⟩
          have BX7 := Lib.hid (BX6.out.below (row_below3 g7 hg3 hz6))
          have hz7 := Nat.le_trans hz6 g7.size
          have htl : (r.take N).length = N := by rw [List.length_take]; omega
          have PA := parse_any A7 c7 (r.take N) k w7 (Sl.of_own o7) (HBR.out.take N) (by rw [htl]; omega)
          rw [htl] at PA
          have P7 := Lib.hid hp7
          have PAH := Lib.hid PA
          clear hp7 g7 o7 PA htl Y3
          cases hpw : parseW k (r.take N) with
          | none =>
            have HR := Lib.hid (show readW p = .error 4 by rw [RD4.out, hpw])
            have HPW := Lib.hid hpw
            clear hpw
            go_wp2_with fail
            refine PAH.out.mono ?_
            rintro e w8 hT
            have e8 := hT.no HPW.out
            subst e8
            exact read_dies _ w w8 _ p 4 (BX7.out.below (hT.bel.mono hz7)) rfl rfl rfl HR.out
          | some m =>
            have HR := Lib.hid (show readW p = .ok (m, r.drop N) by rw [RD4.out, hpw])
            have HPW := Lib.hid hpw
            clear hpw
            go_wp2_with fail
            refine PAH.out.mono ?_
            rintro e w8 hT
            obtain ⟨nA, nc, rA, rc, vA, vc, rfl, q1, q2, q3⟩ := hT.ok m HPW.out
            obtain ⟨MC, hMC⟩ : ∃ MC, MC = mvC m nA nc rA rc vA vc := ⟨_, rfl⟩
            rw [← hMC]
            have HMC := Lib.hid hMC
            have HMS := Lib.hid (show MC.size = 16 by rw [hMC]; rfl)
            have HM1 := Lib.hid (show MC.all (·.oneCell') = true by rw [hMC]; exact mvC_one _ _ _ _ _ _ _)
            have bx8 := BX7.out.below (hT.bel.mono hz7)
            have hz8 := Nat.le_trans hz7 hT.bel.size
            have BX8 := Lib.hid bx8
            have P8 := P7.out.below hT.bel
            obtain ⟨w9, hw9⟩ : ∃ w9, w9 = w8.setRow w.heap.size MC := ⟨_, rfl⟩
            have gs : w8.grownBy w9 (some w.heap.size) := by rw [hw9]; exact only_setRowK _ _ _
            have P9 := Lib.hid (P8.apart gs (by omega) (by omega) (Nat.le_refl _))
            have rows : ∀ {E : TypeId} {sz n cc : Nat} {AA : Option Addr} {xs : List Value}, OwnV w8 w7.heap.size E sz AA cc n xs → OwnV w9 (w.heap.size + 3) E sz AA cc n xs := fun ho =>
              OwnV.lower (OwnV.apart ho gs (fun kk hk e => by injection e with e; have := OwnV.row_ge ho kk hk; omega)) (by omega)
            have OO := Lib.hid (And.intro (rows q1) (And.intro (rows q2) (rows q3)))
            have BX9 := Lib.hid (show Bx w w9 MC from ⟨by rw [hw9]; exact setRowJ bx8.m MC, HMS.out, bx8.r.grown gs (fun e => by injection e with e; omega), bx8.e.grown gs (fun e => by injection e with e; omega), by rw [hw9]; exact bx8.bel.trans ((frm_setRow w8 w.heap.size MC).below bx8.bel.size (fun b hb hs => by omega))⟩)
            have hz9 : w.heap.size + 3 ≤ w9.heap.size := Nat.le_trans hz8 gs.size
            have HW9 := Lib.hid hw9
            clear hMC bx8 P8 gs rows hw9 q1 q2 q3 hT P7 PAH
            go_wp2_with (refine wpList_store_row rfl 31 (.tmp 2) (.tmp 29) rfl w.heap.size MC rfl rfl 31 _ BX8.out.m (by rw [HMS.out]; exact info_msgJ) (by rw [HMS.out]; rfl) HM1.out ?_)
            rw [← HW9.out]
            have hqn : (r.drop N).length ≤ 70368744177664 := P9.out.rd.small
            have LF := Lib.hid (PLeft_any (P9.out.drew))
            obtain ⟨w10, hw10⟩ : ∃ w10, w10 = w9.drew := ⟨_, rfl⟩
            rw [← hw10] at LF
            have BX10 := Lib.hid (show Bx w w10 MC by rw [hw10]; exact BX9.out.below (Below.refl _ _).drew)
            have OO10 := Lib.hid (show Own w10 (w.heap.size + 3) nA nc m.name ∧ Own w10 (w.heap.size + 3) rA rc m.reason ∧ OwnV w10 (w.heap.size + 3) 22 1 vA vc m.vers.length (IV .u64 m.vers) by rw [hw10]; exact ⟨OO.out.1, OO.out.2.1, OO.out.2.2⟩)
            have hz10 : w.heap.size + 3 ≤ w10.heap.size := by rw [hw10]; exact hz9
            have HW10 := Lib.hid hw10
            obtain ⟨Q, hQ⟩ : ∃ Q, Q = r.drop N := ⟨_, rfl⟩
            rw [← hQ] at LF HR hqn
            clear hw10 hQ BX8 HW9 OO P9
            refine wp_region_noPanic ?_
            refine wp_region_held_drew (S := fun w' => Blk w' w.heap.size 31 MC) (by kernel_rfl) (by rw [← HW10.out]; exact BX10.out.m) (fun s0 => ?_)
            rw [← HW10.out] at s0 ⊢
            refine wpAnyH_take (i := 0) (oi := ⟨_, _, _, _, _, _⟩) (v := .agg MC.toList.toArray) rfl (by kernel_rfl) (by kernel_rfl) (by kernel_rfl) (fun _ _ _ h => h) (yieldsIf_load_mid (by rfl) 31 (.tmp 2) rfl w.heap.size 0 rfl MC.toList _ (fun w' hS => range_blk hS) Tryd.underlying31 rfl (by rw [Array.length_toList, HMS.out]; exact info_msgJ)) s0 ?_
            simp only [Act.put, List.setIfInBounds_toArray, List.set_cons_zero, List.set_cons_succ]
            rw [Array.toArray_toList]
            refine wpAnyH_take (i := 1) (oi := ⟨_, _, _, _, _, _⟩) (v := .pointer (some ⟨gp, 0, none⟩)) rfl (by kernel_rfl) (by kernel_rfl) (by kernel_rfl) (fun _ _ _ h => h) (Or.inl ⟨by rfl, fun w _ => rfl⟩) s0 ?_
            simp only [Act.put, List.setIfInBounds_toArray, List.set_cons_zero, List.set_cons_succ]
            refine wpAnyH_ready (rs := [2]) (by kernel_rfl) (by simp) ?_
            refine AllReadyH.cons rfl (fun K hK => ?_) AllReadyH.nil
            go_simp
            refine LF.out.mono ?_
            rintro e w11 ⟨A8, c8, rfl, s8, rfl⟩
            have hA8 : A8 = none → Q = [] ∧ c8 = 0 := fun e => by
              have h1 := s8.nil e
              have h2 := s8.le
              exact ⟨List.eq_nil_of_length_eq_zero (by omega), h1⟩
            have CLN := Lib.hid (clone_any A8 c8 Q w10 (s8.rd_ (by omega)) hqn hA8)
            refine hK.out _ _ s0 (fun s1 => ?_)
            clear hK K s8 hA8
            refine wpAnyH_ready (rs := [3]) (by kernel_rfl) (by simp) ?_
            refine AllReadyH.cons rfl (fun K hK => ?_) AllReadyH.nil
            go_simp
            refine CLN.out.mono ?_
            rintro e w12 ⟨A9, c9, rfl, o9, b9⟩
            have BX12 := Lib.hid (BX10.out.below (b9.mono hz10))
            refine hK.out _ _ BX12.out.m (fun s2 => ?_)
            clear hK K
            refine wpAnyH_ready (rs := [4]) (by kernel_rfl) (by simp) ?_
            refine AllReadyH.cons rfl (fun K hK => ?_) AllReadyH.nil
            rw [if_pos (by rfl)]
            refine wp_store_row 31 (.tmp 2) (.tmp 30) rfl w.heap.size MC rfl rfl 31 _ BX12.out.m (by rw [HMS.out]; exact info_msgJ) rfl HM1.out ?_
            simp only [List.getElem_toArray, List.getElem_cons_succ, List.getElem_cons_zero, Act.put, List.setIfInBounds_toArray, List.set_cons_succ, List.set_cons_zero]
            have gs := only_setRowK w12 w.heap.size MC
            obtain ⟨w13, hw13⟩ : ∃ w13, w13 = w12.setRow w.heap.size MC := ⟨_, rfl⟩
            have m13 : Blk w13 w.heap.size 31 MC := by rw [hw13]; exact setRowJ BX12.out.m MC
            rw [← hw13] at gs
            refine hK.out _ _ (by rw [← hw13]; exact m13) (fun s3 => ?_)
            rw [← hw13] at s3 ⊢
            clear hK K
            have r13 := BX12.out.r.grown gs (fun e => by injection e with e; omega)
            have e13 := BX12.out.e.grown gs (fun e => by injection e with e; omega)
            have B13 := Lib.hid (show Below w.heap.size w w13 by rw [hw13]; exact BX12.out.bel.trans ((frm_setRow w12 w.heap.size MC).below BX12.out.bel.size (fun b hb hs => by omega)))
            have F13 := Lib.hid (show Frm w12 w13 (fun b => b < w.heap.size + 3) by rw [hw13]; exact (frm_setRow w12 w.heap.size MC).mono (fun b hb hs => by omega))
            clear hw13
            have f0 := r13.cell 0
            have z0 := r13.frozen 0
            have l0 := r13.lt
            simp at f0
            refine wpAnyH_ready (rs := [5]) (by kernel_rfl) (by simp) ?_
            refine AllReadyH.cons rfl (fun K hK => ?_) AllReadyH.nil
            go_simp
            have m14 := m13.far (p := ⟨w.heap.size + 1, 0, none⟩) (by show w.heap.size ≠ w.heap.size + 1; omega) (.slice A9 Q.length c9)
            refine hK.out _ _ m14 (fun s4 => ?_)
            clear hK K f0 z0 l0
            have r14 := r13.set_ 0 (.slice A9 Q.length c9)
            have e14 := e13.far (p := ⟨w.heap.size + 1, 0, none⟩) (by show w.heap.size + 2 ≠ w.heap.size + 1; omega) (.slice A9 Q.length c9)
            have f0 := e14.cell 0
            have z0 := e14.frozen 0
            have l0 := e14.lt
            simp at f0
            refine wpAnyH_ready (rs := [6]) (by kernel_rfl) (by simp) ?_
            refine AllReadyH.cons rfl (fun K hK => ?_) AllReadyH.nil
            go_simp
            have m15 := m14.far (p := ⟨w.heap.size + 2, 0, none⟩) (by show w.heap.size ≠ w.heap.size + 2; omega) (.int .i64 0)
            refine hK.out _ _ m15 (fun s5 => ?_)
            clear hK K f0 z0 l0
            have r15 := r14.far (p := ⟨w.heap.size + 2, 0, none⟩) (by show w.heap.size + 1 ≠ w.heap.size + 2; omega) (.int .i64 0)
            have e15 := e14.set_ 0 (.int .i64 0)
            have c1 := r15.cell 0
            have c2 := e15.cell 0
            simp at c1 c2
            have F15 := (F13.out.set (p := ⟨w.heap.size + 1, 0, none⟩) (.inr (by show w.heap.size + 1 < w.heap.size + 3; omega)) (.slice A9 Q.length c9)).set (p := ⟨w.heap.size + 2, 0, none⟩) (.inr (by show w.heap.size + 2 < w.heap.size + 3; omega)) (.int .i64 0)
            have B15 := (B13.out.setCell (p := ⟨w.heap.size + 1, 0, none⟩) (by show w.heap.size ≤ w.heap.size + 1; omega) (.slice A9 Q.length c9)).setCell (p := ⟨w.heap.size + 2, 0, none⟩) (by show w.heap.size ≤ w.heap.size + 2; omega) (.int .i64 0)
            have fin : ∀ {E : TypeId} {sz n cc : Nat} {AA : Option Addr} {xs : List Value}, OwnV w12 (w.heap.size + 3) E sz AA cc n xs → OwnV ((w13.setCell ⟨w.heap.size + 1, 0, none⟩ (.slice A9 Q.length c9)).setCell ⟨w.heap.size + 2, 0, none⟩ (.int .i64 0)) w.heap.size E sz AA cc n xs := fun ho =>
              OwnV.lower (OwnV.frm ho F15 (fun kk hk hs => by have := OwnV.row_ge ho kk hk; omega)) (by omega)
            have g1 := fin (OwnV.below OO10.out.1 b9)
            have g2 := fin (OwnV.below OO10.out.2.1 b9)
            have g3 := fin (OwnV.below OO10.out.2.2 b9)
            have g4 := fin (OwnV.lower o9 hz10)
            have FIN := Lib.hid (And.intro g1 (And.intro g2 (And.intro g3 (And.intro g4 B15))))
            have M15 := Lib.hid m15
            clear g1 g2 g3 g4 fin F15 B15 m15 m14 m13 r15 r14 r13 e15 e14 e13 s0 s1 s2 s3 s4 s5 gs o9 b9
            refine wpAnyH_done (by kernel_rfl) (NoPanic.normal ?_) _
            go_wp2_with fail
            refine leaves_cons (f := 31) (args := #[.pointer (some ⟨w.heap.size, 0, none⟩), .pointer (some ⟨w.heap.size + 1, 0, none⟩), .pointer (some ⟨w.heap.size + 2, 0, none⟩)]) (by simp) (by simp [go_sem]) ?_
            refine (catch_idle ⟨w.heap.size, 0, none⟩ ⟨w.heap.size + 1, 0, none⟩ ⟨w.heap.size + 2, 0, none⟩ _).mono ?_
            rintro e u' w'' ⟨rfl, rfl, rfl⟩
            refine ⟨_, results_read _ _ w.heap.size (w.heap.size + 1) (w.heap.size + 2) MC _ _ rfl rfl rfl M15.out HMS.out c1 c2, ?_, ?_, FIN.out.2.2.2.2⟩
            · intro m' q' hm
              rw [HR.out] at hm
              injection hm with hm
              injection hm with h1 h2
              subst h1 h2
              exact ⟨nA, nc, rA, rc, vA, vc, A9, c9, by rw [HMC.out], FIN.out.1, FIN.out.2.1, FIN.out.2.2.1, FIN.out.2.2.2.1⟩
            · intro e hm
              rw [HR.out] at hm
              cases hm
end Go.Proofs.YtfedofoadfipcaaDoor
