/-
  ItemEnds: the walk (made by mkItemW.py).
-/
import Derived.Test.YtpaglcojbcndoaaDoorItemU
import Derived.Test.YtpaglcojbcndoaaDoorJV
import Derived.Deep.LoopGhost
namespace Go.Proofs.YtpaglcojbcndoaaDoor
open Go.RowKit Go.Maps
set_option linter.unusedVariables false
set_option linter.unusedSimpArgs false
/-- What stands behind k objects. -/
structure EI (w wr : World) (gh : Nat) (HC : Array Value) (h : IH) (P : List Int) (A : Option Addr) (c gM n : Nat) (T : List Int) (os : List OV) (k : Nat) : Prop where
  kh : Blk wr gh 50 HC
  p : Own wr w.heap.size A c P
  eP : P = beginB h ++ encs h os
  m : MapJ wr gM n T
  mn : n ≤ k + 1
  mT : ∀ y : Nat, ((y : Int) ∈ T) ↔ ((beginB h).length ≤ y ∧ y - (beginB h).length ∈ offs h os)
  os8 : os.length ≤ 8 ∧ os.length ≤ k
  ok : ∀ o ∈ os, (nextOk h o = true ∧ 0 ≤ o.grp ∧ 0 ≤ o.obj) ∧ o.obj < k ∧ (h.fe = true → o.grp = o.obj)
  pw : os.Pairwise lessO
  pl : P.length ≤ 30 + 2100 * os.length
  by_ : Bytes P
  bel : Below w.heap.size w wr
section
variable {w wr wx : World} {gh : Nat} {HC : Array Value} {h : IH} {P : List Int} {A : Option Addr} {c gM n : Nat} {T : List Int} {os : List OV} {k : Nat}
theorem EI.below (q : EI w wr gh HC h P A c gM n T os k) (b : Below wr.heap.size wr wx) : EI w wx gh HC h P A c gM n T os k :=
  ⟨q.kh.below b q.kh.lt, Own.below q.p b, q.eP, q.m.below b, q.mn, q.mT, q.os8, q.ok, q.pw, q.pl, q.by_, q.bel.trans (b.mono q.bel.size)⟩
theorem EI.next (q : EI w wr gh HC h P A c gM n T os k) : EI w wr gh HC h P A c gM n T os (k + 1) :=
  ⟨q.kh, q.p, q.eP, q.m, Nat.le_succ_of_le q.mn, q.mT, ⟨q.os8.1, Nat.le_succ_of_le q.os8.2⟩, fun o ho => ⟨(q.ok o ho).1, by have := (q.ok o ho).2.1; omega, (q.ok o ho).2.2⟩, q.pw, q.pl, q.by_, q.bel⟩
theorem MapJ.ne_own {A : Option Addr} {c : Nat} {l : List Int} {b0 : Nat} (m : MapJ wr gM n T) (ho : Own wr b0 A c l) : ∀ k, (Value.slice A l.length c).ownBlock = some k → k ≠ gM := fun k hk => by
  rcases OwnV.row_is (show OwnV wr b0 5 1 A c l.length (U8 l) from ho) with ⟨hA, _⟩ | ⟨g, cur, hA, _, hb, _⟩
  · rw [hA] at hk; cases hk
  · rw [hA] at hk
    simp [Value.ownBlock] at hk
    subst hk
    exact m.ne_blk hb
/-- An object is taken. -/
theorem EI.took {w1 w2 : World} {A' : Option Addr} {c' n' : Nat} {T' : List Int} {o : OV} {P' : List Int} (q : EI w wr gh HC h P A c gM n T os k) (hk : k < 8) (hn : nextOk h o = true) (h0 : 0 ≤ o.grp ∧ 0 ≤ o.obj) (hp : 0 ≤ o.prio ∧ o.prio < 256) (hd : Bytes o.data) (hob : o.obj = k) (hg : h.fe = true → o.grp = o.obj) (hgh : w.heap.size ≤ gh)
    (eP' : P' = P ++ nextB h o) (o1 : Own w1 w.heap.size A' c' P') (g1 : wr.grownBy w1 (Value.slice A P.length c).ownBlock) (b1 : Below w.heap.size wr w1) (m2 : MapJ w2 gM n' T') (hn' : n' = n + 1) (eT : T' = T ++ if (P'.length : Int) ∈ T then [] else [(P'.length : Int)]) (g2 : w1.grownBy w2 (some gM)) (hM : w.heap.size ≤ gM) :
    EI w w2 gh HC h P' A' c' gM n' T' (os ++ [o]) (k + 1) := by
  have hnb := nextB_by hn h0 hp hd
  have kh1 := q.kh.grown g1 (fun e => own_ne q.p q.kh (by decide) gh e.symm rfl)
  have m1 : MapJ w1 gM n T := q.m.kept g1 (fun e => MapJ.ne_own q.m q.p gM e.symm rfl)
  have hb2 : Below w.heap.size w w2 := (q.bel.trans b1).grown g2 (q.bel.trans b1).size (fun r hr => by injection hr with hr; omega)
  refine ⟨kh1.grown g2 (fun e => m1.ne_blk kh1 (by injection e)), OwnV.apart (show OwnV w1 w.heap.size 5 1 A' c' P'.length (U8 P') from o1) g2 (fun j hj e => by injection e with e; exact MapJ.ne_own m1 o1 j hj e.symm), by rw [eP', encs_snoc, q.eP, List.append_assoc], m2, by rw [hn']; have := q.mn; omega, fun y => ?_, ⟨by rw [List.length_append]; have := q.os8; simp; omega, by rw [List.length_append]; have := q.os8; simp; omega⟩, fun x hx => ?_, ?_, ?_, by rw [eP']; exact Bytes.append q.by_ hnb.1, hb2⟩
  · have hmem : ((y : Int) ∈ T') ↔ ((y : Int) ∈ T ∨ y = P'.length) := by
      rw [eT]
      by_cases hm : (P'.length : Int) ∈ T
      · rw [if_pos hm, List.append_nil]
        constructor
        · exact fun h => .inl h
        · rintro (h | h)
          · exact h
          · rw [h]; exact hm
      · rw [if_neg hm]
        simp only [List.mem_append, List.mem_singleton]
        constructor
        · rintro (h | h)
          · exact .inl h
          · exact .inr (by omega)
        · rintro (h | h)
          · exact .inl h
          · exact .inr (by omega)
    rw [hmem, q.mT y, offs_snoc]
    have hPl : P'.length = (beginB h).length + ((encs h os).length + (nextB h o).length) := by rw [eP', q.eP, List.length_append, List.length_append]; omega
    rw [hPl]
    constructor
    · rintro (⟨h1, h2⟩ | h1)
      · exact ⟨h1, .inl h2⟩
      · exact ⟨by omega, .inr (by omega)⟩
    · rintro ⟨h1, h2 | h2⟩
      · exact .inl ⟨h1, h2⟩
      · exact .inr (by omega)
  · rcases List.mem_append.1 hx with hx | hx
    · exact ⟨(q.ok x hx).1, by have := (q.ok x hx).2.1; omega, (q.ok x hx).2.2⟩
    · rw [List.mem_singleton] at hx
      subst hx
      exact ⟨⟨hn, h0⟩, by omega, hg⟩
  · rw [List.pairwise_append]
    refine ⟨q.pw, List.pairwise_singleton _ _, fun x hx y hy => ?_⟩
    rw [List.mem_singleton] at hy
    subst hy
    obtain ⟨⟨x1, x2⟩, x3, x4⟩ := q.ok x hx
    unfold lessO lessI
    by_cases hf : h.fe = true
    · have e1 := x4 hf
      have e2 := hg hf
      rw [if_neg (by omega)]
      simp; omega
    · have e1 := ((nextOk_iff x1).2.2.2.resolve_left hf).1
      have e2 := ((nextOk_iff hn).2.2.2.resolve_left hf).1
      rw [if_pos (by rw [e1, e2])]
      simp; omega
  · rw [eP', List.length_append, List.length_append]
    have := q.pl
    have := hnb.2
    simp
    omega
end
theorem rd_upto {w : World} {A : Option Addr} {l : List Int} (h : Rd w A l) {k : Nat} (hk : k ≤ l.length) : Rd w A (l.take k) := by
  have e : (l.take k).length = k := by simp [hk]
  have := Reads.upto h hk
  rw [Nat.mul_one] at this
  unfold Rd
  rw [e, U8_take]
  exact this
theorem wf_u16J {x : Int} (h : (Lit.int .u16 x).wf = true) : 0 ≤ x ∧ x ≤ 65535 := by
  simp [Lit.wf, IntKind.min, IntKind.max, IntKind.signed, IntKind.bits] at h
  omega
theorem ei_start {w w2 w4 : World} {gh : Nat} {HC : Array Value} {h : IH} {L1 : List Int} {PA : Option Addr} {pc : Nat} (hk : IHOk h) (hb : beginOk h = true) (hL : L1 = beginB h) (p : Own (w2.alloc (.map #[] 0)) w.heap.size PA pc L1) (kh : Blk (w2.alloc (.map #[] 0)) gh 50 HC) (bw : Below w.heap.size w (w2.alloc (.map #[] 0))) (m0 : MapJ (w2.alloc (.map #[] 0)) w2.heap.size 0 [])
    (m : MapJ w4 w2.heap.size (0 + 1) ([] ++ if (L1.length : Int) ∈ ([] : List Int) then [] else [(L1.length : Int)])) (g : (w2.alloc (.map #[] 0)).grownBy w4 (some w2.heap.size)) (hz : w.heap.size ≤ w2.heap.size) :
    EI w w4 gh HC h L1 PA pc w2.heap.size (0 + 1) ([] ++ if (L1.length : Int) ∈ ([] : List Int) then [] else [(L1.length : Int)]) [] 0 := by
  have y := beginB_by hk hb
  refine ⟨kh.grown g (fun e => m0.ne_blk kh (by injection e)), OwnV.apart (show OwnV _ w.heap.size 5 1 PA pc L1.length (U8 L1) from p) g (fun j hj e => by injection e with e; exact MapJ.ne_own m0 p j hj e.symm), by rw [hL]; simp [encs], m, by omega, fun z => ?_, ⟨by simp, by simp⟩, fun o ho => (by cases ho), List.Pairwise.nil, by rw [hL]; have := y.2; simp; omega, by rw [hL]; exact y.1, bw.grown g bw.size (fun r hr => by injection hr with hr; omega)⟩
  rw [if_neg (by simp)]
  simp only [List.nil_append, List.mem_singleton, offs]
  rw [hL]
  omega
structure BoxG6 (wr wx : World) (gm : Nat) (O5 : OV) (A2 : Option Addr) (c2 : Nat) (g p : Int) (fe : Bool) (k : Nat) : Prop where
  b : Blk wx gm 27 (ovC { O5 with grp := g, prio := p } A2 c2)
  d : Own wx wr.heap.size A2 c2 O5.data
  bel : Below wr.heap.size wr wx
  fe_ : fe = true → g = k
  g0 : 0 ≤ g
  p0 : 0 ≤ p ∧ p < 256
set_option maxHeartbeats 12800000 in
set_option maxRecDepth 100000 in
theorem ends16_walk (h : IH) (A0 : Option Addr) (c0 : Nat) (xs : List RO) (ct : Int) (w : World) (ht : Tab w) (hk : IHOk h) (hr : RdT 5 ROC (fun x => OVOk w x.o x.A x.c) w A0 xs) (h1 : xs.length ≤ c0) (h2 : c0 ≤ 9223372036854775807) (h3 : A0 = none → c0 = 0) (wc : (Lit.int .u16 ct).wf = true) :
    Calls Tryd.prog 7 #[.agg (ihC h), .slice A0 xs.length c0, .int .u16 ct] w fun r w' => r = .returned (.bool true) ∧ Below w.heap.size w w' := by
  obtain ⟨P9, hP9⟩ : ∃ P9 : World → Ending → Prop, P9 = fun w' r => r = .returned (.bool true) ∧ Below w.heap.size w w' := ⟨_, rfl⟩
  have HP := Lib.hid hP9
  rw [show (fun r w' => r = .returned (.bool true) ∧ Below w.heap.size w w') = fun r w' => P9 w' r by rw [hP9]]
  obtain ⟨HC, hHC⟩ : ∃ x, x = ihC h := ⟨_, rfl⟩
  rw [← hHC]
  obtain ⟨W, hW⟩ : ∃ W, W = w.alloc (.cells HC 50) := ⟨_, rfl⟩
  have bw : Below w.heap.size w W := by rw [hW]; exact (Below.refl _ _).alloc (Nat.le_refl _) _
  obtain ⟨gh, hgh⟩ : ∃ g, g = w.heap.size := ⟨_, rfl⟩
  have KH := Lib.hid (show Blk W gh 50 HC by rw [hW, hgh]; exact Blk.new _ _ _)
  have AW := Lib.hid (awake16_any W (ht.below bw))
  have HHS := Lib.hid (show (Tryd.prog.info? 50).map (·.size) = some HC.size by rw [hHC]; kernel_rfl)
  have HHC := Lib.hid hHC
  have HHK := Lib.hid hk
  have HWC := Lib.hid (wf_u16J wc)
  have HRX := Lib.hid (RdF.of_T ROC_len (by decide) hr)
  have HEA := Lib.hid hr.each
  have HXL := Lib.hid (show xs.length ≤ 9223372036854775807 by omega)
  have HBG := Lib.hid (fun W' => (show Calls Tryd.prog 24 #[.agg HC] W' fun r w' => RetE W' w' (beginOk h) (beginB h) r from by rw [hHC]; exact (refBegin_any h W' ⟨hk.id, hk.gr⟩).mono fun r w' q => q.ret))
  obtain ⟨OK1, hK1⟩ : ∃ x, x = beginOk h := ⟨_, rfl⟩
  rw [← hK1] at HBG
  have HK1 := Lib.hid hK1
  have BW := Lib.hid bw
  have HW := Lib.hid hW
  have HG := Lib.hid hgh
  clear ht hk hr h1 h2 h3 wc hHC hW bw hgh hP9 hK1
  have hmm := @run_makeMap Tryd.prog
  go_enter Tryd.func7, Tryd.ntmps7
  go_upto_region 1 with (fail)
  rw [← HW.out, ← HG.out]
  go_wp2_with fail
  refine AW.out.mono ?_
  rintro e w1 ⟨rfl, b1⟩
  have KH1 := Lib.hid (KH.out.below b1 KH.out.lt)
  have BW1 := Lib.hid (BW.out.trans (b1.mono BW.out.size))
  clear b1 AW HW KH BW
  go_wp2_with (refine wpList_load_row rfl 50 (.tmp 3) rfl gh rfl 50 HC (0, 0) _ KH1.out Tryd.underlying50 rfl HHS.out ?_)
  refine (HBG.out w1).mono ?_
  intro e w2 q1
  obtain ⟨⟨PA, pc, n1, E1, rfl, y1, z1⟩, b2⟩ := q1
  have HY1 := Lib.hid y1
  have HZ1 := Lib.hid z1
  have KH2 := Lib.hid (KH1.out.below b2 KH1.out.lt)
  have BW2 := Lib.hid (BW1.out.trans (b2.mono BW1.out.size))
  have HS1 := Lib.hid BW1.out.size
  clear y1 z1 b2 KH1 BW1 HBG
  cases OK1 with
  | false =>
    have hz : (E1 != 0) = true := by simpa using HZ1.out rfl
    go_wp2_with fail
    show P9 _ _
    rw [HP.out]
    exact ⟨rfl, BW2.out⟩
  | true =>
    obtain ⟨rfl, rfl, p2⟩ := HY1.out rfl
    have y1 := beginB_by HHK.out HK1.out.symm
    have HB1 := Lib.hid y1
    obtain ⟨L1, hL1⟩ : ∃ l, l = beginB h := ⟨_, rfl⟩
    rw [← hL1] at p2 ⊢
    have HL1 := Lib.hid hL1
    have b3 : Below w2.heap.size w2 (w2.alloc (.map #[] 0)) := (Below.refl _ _).alloc (Nat.le_refl _) _
    have MM := Lib.hid (MapJ.made w2)
    have P3 := Lib.hid (show Own (w2.alloc (.map #[] 0)) w.heap.size PA pc L1 from Own.below (Own.base_leI p2 HS1.out) b3)
    have KH3 := Lib.hid (KH2.out.below b3 KH2.out.lt)
    have BW3 := Lib.hid (BW2.out.trans (b3.mono BW2.out.size))
    have HLW := Lib.hid (wfJ (x := (L1.length : Int)) (by omega) (by have := y1.2; rw [← hL1] at this; omega))
    clear y1 p2 b3 hL1 HY1 HZ1
    go_wp2_with (refine wpList_mapJi rfl (.tmp 27) (.tmp 29) (.const (.bool true)) rfl w2.heap.size 0 [] (L1.length : Int) rfl rfl rfl HLW.out MM.out (by unfold maxLen; omega) ?_
                 intro w4 m4 g4
                 have EI0 := Lib.hid (ei_start HHK.out HK1.out.symm HL1.out P3.out KH3.out BW3.out MM.out m4 g4 BW2.out.size)
                 clear m4 g4)
    obtain ⟨gM, hgM⟩ : ∃ g, g = w2.heap.size := ⟨_, rfl⟩
    have HGM0 := Lib.hid (show w.heap.size ≤ gM by rw [hgM]; exact BW2.out.size)
    rw [← hgM] at EI0
    try rw [← hgM]
    clear hgM MM P3 KH3 BW3 KH2 BW2 HLW
    go_loopg [7, 33] xs.length (fun gm0 pv iv wr => ∃ (k : Nat) (P : List Int) (A' : Option Addr) (c' n : Nat) (T : List Int) (os : List OV), pv = .slice A' P.length c' ∧ iv = .int .i64 k ∧ k ≤ xs.length ∧ gm0 = xs.length - k ∧ Hid (EI w wr gh HC h P A' c' gM n T os k))
    case atStart => exact ⟨0, L1, PA, pc, _, _, [], rfl, rfl, Nat.zero_le _, rfl, EI0⟩
    case round =>
      obtain ⟨k, P, A1, c1, n, TT, os, rfl, rfl, hkl, hgk, HI⟩ := hrel
      have HGK := Lib.hid hgk
      clear hgk
      rename World => wr
      clear EI0
      by_cases hlt : k < xs.length
      · obtain ⟨b, off, x, rfl, hb, hx, hc⟩ := RdF.at_ ROC_len (by decide) (RdF.below HRX.out HI.out.bel) hlt
        have hd : decide ((k : Int) < (xs.length : Int)) = true := by simp; omega
        have HQ := Lib.hid (HEA.out x (List.mem_of_getElem? hx))
        have HRG := Lib.hid (show wr.rangeAt b (off + k * 5) (ROC x) from fun j v hj => by
          have hj5 : j < 5 := by
            rcases Nat.lt_or_ge j 5 with h | h
            · exact h
            · rw [List.getElem?_eq_none (by rw [ROC_len]; exact h)] at hj; cases hj
          rw [Nat.add_assoc, hc j hj5]; exact hj)
        have hw64 : IntKind.u64.wrap (k : Int) = (k : Int) := by rw [IntKind.wrap_u64]; have := HXL.out; omega
        have HLT := Lib.hid hlt
        have hwk : wrap64 ((k : Int) + 1) = (k : Int) + 1 := IntWalk.wrap64_in _ (by have := HXL.out; omega)
        obtain ⟨XC, hXC⟩ : ∃ c, c = ovC x.o x.A x.c := ⟨_, rfl⟩
        have hXR : ROC x = XC.toList := by rw [hXC]; rfl
        rw [hXR] at HRG
        have HXS := Lib.hid (show (Tryd.prog.info? 27).map (·.size) = some XC.size by rw [hXC]; exact info_obj)
        have HX1 := Lib.hid (show XC.all (·.oneCell') = true by rw [hXC]; simp [ovC, Value.oneCell'])
        have HX5 := Lib.hid (ovC_size hXC)
        have HFE := Lib.hid (fun W' (q : Below w.heap.size w W') => (show Calls Tryd.prog 9 #[.agg XC] W' fun r w' => FewN W' w' x.o r from by rw [hXC]; exact (fewO_any x.o x.A x.c W' (HQ.out.sl.below q)).mono fun r w' x => x.named))
        clear hb hx hc hXR hXC
        go_upto_region 10 with (first
          | (refine wpList_load_mid rfl 27 (.tmp 36) rfl b (off + k * 5) rfl XC.toList _ HRG.out Tryd.underlying27 rfl (by rw [Array.length_toList]; exact HXS.out) ?_
             rw [Array.toArray_toList])
          | refine wpList_store_row rfl 27 (.tmp 11) (.tmp 37) rfl wr.heap.size XC rfl rfl 27 _ (Blk.new wr 27 zeroO) HXS.out (by rw [HX5.out]; rfl) HX1.out ?_)
        obtain ⟨gm, hgm⟩ : ∃ g, g = wr.heap.size := ⟨_, rfl⟩
        obtain ⟨w1, hw1⟩ : ∃ v, v = (wr.alloc (.cells #[.int .u64 0, .int .u64 0, .int .u8 0, .bool false, .slice none 0 0] 27)).setRow wr.heap.size XC := ⟨_, rfl⟩
        have ba : Below wr.heap.size wr (wr.alloc (.cells #[.int .u64 0, .int .u64 0, .int .u8 0, .bool false, .slice none 0 0] 27)) := (Below.refl _ _).alloc (Nat.le_refl _) _
        have B1 := Lib.hid (show Below wr.heap.size wr w1 by rw [hw1]; exact ba.grown (only_setRowI _ _ _) ba.size (fun r hr => by injection hr with hr; omega))
        have KM1 := Lib.hid (show Blk w1 gm 27 XC by rw [hw1, hgm]; exact setRowI (Blk.new wr 27 zeroO) XC)
        have HGM := Lib.hid hgm
        rw [← hw1, ← hgm]
        clear ba hw1 hgm hd hlt hkl
        go_wp2_with (refine wpList_load_row rfl 27 (.tmp 11) rfl gm rfl 27 XC (0, 0) _ KM1.out Tryd.underlying27 rfl HXS.out ?_)
        refine (HFE.out w1 (HI.out.bel.trans (B1.out.mono HI.out.bel.size))).mono ?_
        intro e w2 q
        obtain ⟨⟨Aq, cq, NA, rfl, hNA, oA⟩, b2⟩ := q
        have B2 := Lib.hid (B1.out.trans (b2.mono B1.out.size))
        have KM2 := Lib.hid (KM1.out.below b2 KM1.out.lt)
        have OA2 := Lib.hid (Own.base_leI oA.out B1.out.size)
        clear b2 oA KM1 B1 HFE
        go_upto_region 11 with (refine wpList_store_row rfl 27 (.tmp 11) (.tmp 39) rfl gm NA rfl rfl 27 _ KM2.out (by rw [hNA.out]; exact info_obj) (by rw [HX5.out, ovC_size hNA.out]) (ovC_all hNA.out) ?_)
        obtain ⟨O, hO⟩ : ∃ O, O = cutO x.o := ⟨_, rfl⟩
        rw [← hO] at hNA OA2
        obtain ⟨w3, hw3⟩ : ∃ v, v = w2.setRow gm NA := ⟨_, rfl⟩
        have KM3 := Lib.hid (show Blk w3 gm 27 (ovC O Aq cq) by rw [hw3, ← hNA.out]; exact setRowI KM2.out NA)
        have OA3 := Lib.hid (show Own w3 wr.heap.size Aq cq O.data by rw [hw3]; exact own_setRowT OA2.out KM2.out (by decide) NA)
        have B3 := Lib.hid (show Below wr.heap.size wr w3 by rw [hw3]; exact B2.out.grown (only_setRowI _ _ _) B2.out.size (fun r hr => by injection hr with hr; have := HGM.out; omega))
        have HO1 := Lib.hid (show (0 ≤ O.grp ∧ 0 ≤ O.obj) ∧ (0 ≤ O.prio ∧ O.prio < 256) ∧ Bytes O.data ∧ O.data.length ≤ 2100 from by
          rw [hO]
          exact ⟨⟨HQ.out.grp, HQ.out.obj⟩, HQ.out.prio, fun z hz => HQ.out.by_ z (List.mem_of_mem_take hz), by show (x.o.data.take 2100).length ≤ 2100; rw [List.length_take]; omega⟩)
        have CC := Lib.hid (cut_any Aq cq O.data 50 w3 (Rd.of_own OA3.out) (by have := HO1.out.2.2.2; omega) (OwnV.capI OA3.out).1 (by decide) (by decide))
        obtain ⟨D, hD⟩ : ∃ D, D = O.data.take (50 : Int).toNat := ⟨_, rfl⟩
        rw [← hD] at CC
        have HDB := Lib.hid (show Bytes D ∧ D.length ≤ 50 by rw [hD]; exact ⟨HO1.out.2.2.1.take _, by rw [List.length_take]; simp; omega⟩)
        rw [← hw3]
        have k4 := KM3.out.cell 4
        have kz := KM3.out.lt
        simp only [ovC, List.getElem?_toArray, List.getElem?_cons_zero, List.getElem?_cons_succ] at k4
        clear hw3 hO hD KM2 OA2 B2 hNA HXS HX1 HX5 HRG HQ
        go_wp2_with fail
        refine CC.out.mono ?_
        rintro e w4 ⟨A2, c2, rfl, o4, b4⟩
        have B4 := Lib.hid (B3.out.trans (b4.mono B3.out.size))
        have KM4 := Lib.hid (KM3.out.below b4 KM3.out.lt)
        have OD4 := Lib.hid (Own.base_leI o4 B3.out.size)
        clear b4 o4 CC KM3 OA3 B3 k4 kz
        have k3 := KM4.out.cell 3
        have k4 := KM4.out.cell 4
        have kz := KM4.out.lt
        have kf := fun i => KM4.out.frozen i
        simp only [ovC, List.getElem?_toArray, List.getElem?_cons_zero, List.getElem?_cons_succ] at k3 k4
        go_upto_region 12 with (fail)
        obtain ⟨O5, hO5⟩ : ∃ o : OV, o = { O with gram := false, data := D } := ⟨_, rfl⟩
        obtain ⟨w5, hw5⟩ : ∃ v, v = (w4.setCell ⟨gm, 3, none⟩ (.bool false)).setCell ⟨gm, 4, none⟩ (.slice A2 D.length c2) := ⟨_, rfl⟩
        have KM5 := Lib.hid (show Blk w5 gm 27 (ovC O5 A2 c2) by rw [hw5, hO5]; exact (KM4.out.set_ 3 (.bool false)).set_ 4 (.slice A2 D.length c2))
        have OD5 := Lib.hid (show Own w5 wr.heap.size A2 c2 O5.data by rw [hw5, hO5]; exact own_setT (own_setT OD4.out KM4.out (by decide) 3 _) (KM4.out.set_ 3 (.bool false)) (by decide) 4 _)
        have B5 := Lib.hid (show Below wr.heap.size wr w5 by rw [hw5]; exact (B4.out.setCell (p := ⟨gm, 3, none⟩) (by show wr.heap.size ≤ gm; have := HGM.out; omega) _).setCell (p := ⟨gm, 4, none⟩) (by show wr.heap.size ≤ gm; have := HGM.out; omega) _)
        have H5 := Lib.hid (show O5.gram = false ∧ (0 ≤ O5.prio ∧ O5.prio < 256) ∧ Bytes O5.data ∧ O5.data.length ≤ 50 by rw [hO5]; exact ⟨rfl, HO1.out.2.1, HDB.out.1, HDB.out.2⟩)
        have kh := HI.out.kh.below B5.out HI.out.kh.lt
        have NH5 := Lib.hid (show ¬ gh = gm from fun e => by have := HI.out.kh.lt; have := HGM.out; omega)
        rw [← hw5]
        have KH5' := Lib.hid kh
        rw [HHC.out] at kh
        have kh0 := kh.cell 0
        have khz := kh.lt
        simp only [ihC, List.getElem?_toArray, List.getElem?_cons_zero, List.getElem?_cons_succ] at kh0
        obtain ⟨fe, hfe⟩ : ∃ fe, fe = h.fe := ⟨_, rfl⟩
        rw [← hfe] at kh0
        have HFEQ := Lib.hid hfe
        clear hw5 hO5 k3 k4 kz kf KM4 OD4 B4 HO1 HDB hfe hmm
        go_upto_if 47 with (fail)
        go_cut [] (fun wx => ∃ (g p : Int), Hid (BoxG6 wr wx gm O5 A2 c2 g p h.fe k))
        case first =>
          cases fe with
          | true =>
            as_aux_lemma =>
              clear kh
              have k0 := KM5.out.cell 0
              have kz := KM5.out.lt
              have kf := fun i => KM5.out.frozen i
              simp only [ovC, List.getElem?_toArray, List.getElem?_cons_zero, List.getElem?_cons_succ] at k0
              go_wp2_with fail
              go_meet
              exact ⟨k, O5.prio, Lib.hid ⟨KM5.out.set_ 0 (.int .u64 k), own_setT OD5.out KM5.out (by decide) 0 _, B5.out.setCell (p := ⟨gm, 0, none⟩) (by show wr.heap.size ≤ gm; have := HGM.out; omega) _, fun _ => rfl, by omega, H5.out.2.1⟩⟩
          | false =>
            as_aux_lemma =>
              have HFEB := Lib.hid (HFEQ.out.symm)
              have KH5 := Lib.hid (show Blk w5 gh 50 #[.bool false, .int .u64 h.id, .int .u64 h.gr, .int .u8 h.pr] by rw [← HFEB.out]; exact kh)
              have H0 := Lib.hid (show True ∧ 0 ≤ h.gr ∧ (0 ≤ h.pr ∧ h.pr < 256) from ⟨trivial, HHK.out.gr, HHK.out.pr⟩)
              clear kh
              go_upto_region 13 with (fail)
              clear kh0 khz
              obtain ⟨gr, hgr⟩ : ∃ v, v = h.gr := ⟨_, rfl⟩
              obtain ⟨pr, hpr⟩ : ∃ v, v = h.pr := ⟨_, rfl⟩
              rw [← hgr, ← hpr] at KH5 H0
              clear hgr hpr
              refine wp_region_held_drew (S := fun wv => Frm w5 wv (fun b => b = gm)) (by kernel_rfl) (Frm.refl _ _).drew (fun s0 => ?_)
              refine wpAnyH_take (i := 0) (oi := ⟨_, _, _, _, _, _⟩) (v := .pointer (some ⟨gh, 2, none⟩)) rfl (by kernel_rfl) (by kernel_rfl) (by kernel_rfl) (fun _ _ _ h => h) (Or.inl ⟨by rfl, fun w' hS => by go_simp⟩) s0 ?_
              simp only [List.getElem_toArray, List.getElem_cons_succ, List.getElem_cons_zero, Act.put, List.setIfInBounds_toArray, List.set_cons_zero, List.set_cons_succ]
              refine wpAnyH_take (i := 1) (oi := ⟨_, _, _, _, _, _⟩) (v := .int .u64 gr) rfl (by kernel_rfl) (by kernel_rfl) (by kernel_rfl) (fun _ _ _ h => h) (Or.inl ⟨by rfl, fun w' hS => by have kk := Frm.keep hS KH5.out NH5.out; have c0 := kk.cell 2; have z0 := kk.lt; simp only [List.getElem?_toArray, List.getElem?_cons_zero, List.getElem?_cons_succ] at c0; go_simp⟩) s0 ?_
              simp only [List.getElem_toArray, List.getElem_cons_succ, List.getElem_cons_zero, Act.put, List.setIfInBounds_toArray, List.set_cons_zero, List.set_cons_succ]
              refine wpAnyH_take (i := 2) (oi := ⟨_, _, _, _, _, _⟩) (v := .pointer (some ⟨gh, 3, none⟩)) rfl (by kernel_rfl) (by kernel_rfl) (by kernel_rfl) (fun _ _ _ h => h) (Or.inl ⟨by rfl, fun w' hS => by go_simp⟩) s0 ?_
              simp only [List.getElem_toArray, List.getElem_cons_succ, List.getElem_cons_zero, Act.put, List.setIfInBounds_toArray, List.set_cons_zero, List.set_cons_succ]
              refine wpAnyH_take (i := 3) (oi := ⟨_, _, _, _, _, _⟩) (v := .int .u8 pr) rfl (by kernel_rfl) (by kernel_rfl) (by kernel_rfl) (fun _ _ _ h => h) (Or.inl ⟨by rfl, fun w' hS => by have kk := Frm.keep hS KH5.out NH5.out; have c0 := kk.cell 3; have z0 := kk.lt; simp only [List.getElem?_toArray, List.getElem?_cons_zero, List.getElem?_cons_succ] at c0; go_simp⟩) s0 ?_
              simp only [List.getElem_toArray, List.getElem_cons_succ, List.getElem_cons_zero, Act.put, List.setIfInBounds_toArray, List.set_cons_zero, List.set_cons_succ]
              refine wpAnyH_take (i := 4) (oi := ⟨_, _, _, _, _, _⟩) (v := .pointer (some ⟨gm, 0, none⟩)) rfl (by kernel_rfl) (by kernel_rfl) (by kernel_rfl) (fun _ _ _ h => h) (Or.inl ⟨by rfl, fun w' hS => by go_simp⟩) s0 ?_
              simp only [List.getElem_toArray, List.getElem_cons_succ, List.getElem_cons_zero, Act.put, List.setIfInBounds_toArray, List.set_cons_zero, List.set_cons_succ]
              refine wpAnyH_take (i := 5) (oi := ⟨_, _, _, _, _, _⟩) (v := .pointer (some ⟨gm, 0, none⟩)) rfl (by kernel_rfl) (by kernel_rfl) (by kernel_rfl) (fun _ _ _ h => h) (Or.inl ⟨by rfl, fun w' hS => by go_simp⟩) s0 ?_
              simp only [List.getElem_toArray, List.getElem_cons_succ, List.getElem_cons_zero, Act.put, List.setIfInBounds_toArray, List.set_cons_zero, List.set_cons_succ]
              have F0 := Lib.hid s0
              obtain ⟨u0, hu0⟩ : ∃ v, v = w5.drew := ⟨_, rfl⟩
              have KM0 := Lib.hid (show Blk u0 gm 27 (ovC O5 A2 c2) by rw [hu0]; exact KM5.out.drew)
              have BU0 := Lib.hid (show Below wr.heap.size wr u0 by rw [hu0]; exact B5.out.drew)
              have OD0 := Lib.hid (show Own u0 wr.heap.size A2 c2 O5.data by rw [hu0]; exact Own.below OD5.out (Below.refl _ _).drew)
              rw [← hu0] at s0 F0 ⊢
              clear hu0 s0
              have c0 := KM0.out.cell 0
              have z0 := KM0.out.lt
              have f0 := KM0.out.frozen 0
              simp [ovC] at c0
              refine wpAnyH_ready (rs := [6]) (by kernel_rfl) (by simp) ?_
              refine AllReadyH.cons rfl (fun K hK => ?_) AllReadyH.nil
              go_simp
              have F1 := Lib.hid (F0.out.set (p := ⟨gm, 0, none⟩) (.inr rfl) (.int .u64 gr))
              refine hK.out _ _ F1.out (fun s1 => ?_)
              clear hK K c0 z0 f0
              have BU1 := Lib.hid (BU0.out.setCell (p := ⟨gm, 0, none⟩) (by show wr.heap.size ≤ gm; have := HGM.out; omega) (.int .u64 gr))
              have OD1 := Lib.hid (own_setT OD0.out KM0.out (by decide) 0 (.int .u64 gr))
              have KM1 := Lib.hid (KM0.out.set_ 0 (.int .u64 gr))
              refine wpAnyH_take (i := 7) (oi := ⟨_, _, _, _, _, _⟩) (v := .pointer (some ⟨gm, 2, none⟩)) rfl (by kernel_rfl) (by kernel_rfl) (by kernel_rfl) (fun _ _ _ h => h) (Or.inl ⟨by rfl, fun w' hS => by go_simp⟩) s1 ?_
              simp only [List.getElem_toArray, List.getElem_cons_succ, List.getElem_cons_zero, Act.put, List.setIfInBounds_toArray, List.set_cons_zero, List.set_cons_succ]
              have c0 := KM1.out.cell 2
              have z0 := KM1.out.lt
              have f0 := KM1.out.frozen 2
              simp [ovC] at c0
              refine wpAnyH_ready (rs := [8]) (by kernel_rfl) (by simp) ?_
              refine AllReadyH.cons rfl (fun K hK => ?_) AllReadyH.nil
              go_simp
              have F2 := Lib.hid (F1.out.set (p := ⟨gm, 2, none⟩) (.inr rfl) (.int .u8 pr))
              refine hK.out _ _ F2.out (fun s2 => ?_)
              clear hK K c0 z0 f0
              have BU2 := Lib.hid (BU1.out.setCell (p := ⟨gm, 2, none⟩) (by show wr.heap.size ≤ gm; have := HGM.out; omega) (.int .u8 pr))
              have OD2 := Lib.hid (own_setT OD1.out KM1.out (by decide) 2 (.int .u8 pr))
              have KM2 := Lib.hid (KM1.out.set_ 2 (.int .u8 pr))
              refine wpAnyH_done (by kernel_rfl) ?_ _
              go_wp2_with fail
              go_meet
              exact ⟨gr, pr, Lib.hid ⟨(show Blk _ gm 27 (ovC { O5 with grp := gr, prio := pr } A2 c2) from KM2.out), OD2.out, BU2.out, (fun hh => by rw [HFEB.out] at hh; cases hh), H0.out.2.1, H0.out.2.2⟩⟩
        case rest =>
          obtain ⟨g, p, M6⟩ := hcut
          rename World => w6
          clear KM5 OD5 B5 kh kh0 khz KH5'
          have k1 := M6.out.b.cell 1
          have kz := M6.out.b.lt
          have kf := fun i => M6.out.b.frozen i
          simp only [ovC, List.getElem?_toArray, List.getElem?_cons_zero, List.getElem?_cons_succ] at k1
          go_upto_region 16 with (fail)
          obtain ⟨O7, hO7⟩ : ∃ o : OV, o = { O5 with grp := g, prio := p, obj := (k : Int) } := ⟨_, rfl⟩
          obtain ⟨CO, hCO⟩ : ∃ c, c = ovC O7 A2 c2 := ⟨_, rfl⟩
          obtain ⟨w7, hw7⟩ : ∃ v, v = w6.setCell ⟨gm, 1, none⟩ (.int .u64 (k : Int)) := ⟨_, rfl⟩
          have KM7 := Lib.hid (show Blk w7 gm 27 CO by rw [hw7, hCO, hO7]; exact M6.out.b.set_ 1 (.int .u64 (k : Int)))
          have OD7 := Lib.hid (show Own w7 wr.heap.size A2 c2 O7.data by rw [hw7, hO7]; exact own_setT M6.out.d M6.out.b (by decide) 1 _)
          have B7 := Lib.hid (show Below wr.heap.size wr w7 by rw [hw7]; exact M6.out.bel.setCell (p := ⟨gm, 1, none⟩) (by show wr.heap.size ≤ gm; have := HGM.out; omega) _)
          have KH7 := Lib.hid (HI.out.kh.below B7.out HI.out.kh.lt)
          have H7 := Lib.hid (show (0 ≤ O7.grp ∧ 0 ≤ O7.obj) ∧ (0 ≤ O7.prio ∧ O7.prio < 256) ∧ Bytes O7.data ∧ O7.data.length ≤ 50 ∧ O7.obj = k ∧ (h.fe = true → O7.grp = O7.obj) by rw [hO7]; exact ⟨⟨M6.out.g0, by show (0 : Int) ≤ (k : Int); omega⟩, M6.out.p0, H5.out.2.2.1, H5.out.2.2.2, rfl, M6.out.fe_⟩)
          have HCS := Lib.hid (show (Tryd.prog.info? 27).map (·.size) = some CO.size by rw [hCO]; exact info_obj)
          have NX := Lib.hid (show Calls Tryd.prog 25 #[.agg HC, .agg CO] w7 fun r w' => RetE w7 w' (nextOk h O7) (nextB h O7) r from by rw [HHC.out, hCO]; exact (refNext_any h O7 A2 c2 w7 H7.out.1 (Rd.of_own OD7.out) (by have := H7.out.2.2.2.1; omega)).mono fun r w' q => q.ret)
          obtain ⟨OKN, hOKN⟩ : ∃ b, b = nextOk h O7 := ⟨_, rfl⟩
          rw [← hOKN] at NX
          have HOKN := Lib.hid hOKN
          rw [← hw7]
          clear hw7 hO7 hCO hOKN k1 kz kf M6 H5
          go_wp2_with (first
            | refine wpList_load_row rfl 50 (.tmp 3) rfl gh rfl 50 HC (0, 0) _ KH7.out Tryd.underlying50 rfl HHS.out ?_
            | refine wpList_load_row rfl 27 (.tmp 11) rfl gm rfl 27 CO (0, 0) _ KM7.out Tryd.underlying27 rfl HCS.out ?_)
          refine NX.out.mono ?_
          intro e w8 q8
          obtain ⟨⟨A8, c8, n8, E8, rfl, y8, z8⟩, b8⟩ := q8
          have E8' := Lib.hid (HI.out.below (B7.out.trans (b8.mono B7.out.size)))
          have HY8 := Lib.hid y8
          have HZ8 := Lib.hid z8
          have HW7 := Lib.hid (show w.heap.size ≤ w7.heap.size from Nat.le_trans HI.out.bel.size B7.out.size)
          clear y8 z8 b8 NX KM7 KH7 OD7 B7 HI
          by_cases k8 : k < 8
          · have hd8 : decide ((k : Int) < 8) = true := by simp; omega
            cases OKN with
            | false =>
              as_aux_lemma =>
                have hz : (E8 == 0) = false := by simpa using HZ8.out rfl
                go_wp2_with fail
                go_roundg (xs.length - (k + 1))
                case rel => exact ⟨k + 1, P, A1, c1, n, TT, os, rfl, by first | (simp; done) | (rw [hwk]; simp), by have := HLT.out; omega, rfl, Lib.hid E8'.out.next⟩
                case measure => have h1 := HGK.out; have h2 := HLT.out; omega
            | true =>
              as_aux_lemma =>
                obtain ⟨rfl, rfl, o8⟩ := HY8.out rfl
                obtain ⟨NB, hNB⟩ : ∃ l, l = nextB h O7 := ⟨_, rfl⟩
                rw [← hNB] at o8 ⊢
                obtain ⟨P2, hP2⟩ : ∃ l, l = P ++ NB := ⟨_, rfl⟩
                have HP2 := Lib.hid hP2
                have hnl := (nextB_by HOKN.out.symm H7.out.1 H7.out.2.1 H7.out.2.2.1).2
                rw [← hNB] at hnl
                have HNL := Lib.hid hnl
                have HPL := Lib.hid (show P.length ≤ 20000 by have := E8'.out.pl; have := E8'.out.os8.1; omega)
                have HNBE := Lib.hid hNB
                have R8 := Lib.hid (Rd.of_own o8)
                have P8 := Lib.hid E8'.out.p
                have HMX := Lib.hid (show n < maxLen by have := E8'.out.mn; unfold maxLen; omega)
                have HWF := Lib.hid (wfJ (x := (P2.length : Int)) (by omega) (by rw [hP2, List.length_append]; have := HPL.out; omega))
                clear o8 hNB hP2 hnl HY8 HZ8
                go_wp2_with (first
                  | (refine wpList_appI rfl (.tmp 75) (.tmp 76) rfl w.heap.size (l := P) (news := NB) P2 HP2.out rfl rfl P8.out R8.out (by have := HPL.out; have := HNL.out; omega) E8'.out.bel.size ?_
                     intro A9 c9 w9 o9 g9 b9
                     have O9 := Lib.hid o9
                     have G9 := Lib.hid g9
                     have B9 := Lib.hid b9
                     have M9 := Lib.hid (show MapJ w9 gM n TT from E8'.out.m.kept g9 (fun e => MapJ.ne_own E8'.out.m P8.out gM e.symm rfl))
                     clear o9 g9 b9)
                  | (refine wpList_mapJ rfl (.tmp 78) (.tmp 80) (.const (.bool true)) rfl gM n TT (P2.length : Int) rfl rfl rfl HWF.out M9.out HMX.out ?_
                     intro w10 m10 g10
                     have M10 := Lib.hid m10
                     have G10 := Lib.hid g10
                     clear m10 g10))
                have EN := Lib.hid (E8'.out.took k8 HOKN.out.symm H7.out.1 H7.out.2.1 H7.out.2.2.1 H7.out.2.2.2.2.1 H7.out.2.2.2.2.2 (Nat.le_of_eq HG.out.symm) (by rw [HP2.out, HNBE.out]) O9.out G9.out B9.out M10.out rfl rfl G10.out HGM0.out)
                go_roundg (xs.length - (k + 1))
                case rel => exact ⟨k + 1, P2, A9, c9, n + 1, _, os ++ [O7], rfl, by first | (simp; done) | (rw [hwk]; simp), by have := HLT.out; omega, rfl, EN⟩
                case measure => have h1 := HGK.out; have h2 := HLT.out; omega
          · skip
            as_aux_lemma =>
              have hd8 : decide ((k : Int) < 8) = false := by simp; omega
              go_wp2_with fail
              go_roundg (xs.length - (k + 1))
              case rel => exact ⟨k + 1, P, A1, c1, n, TT, os, rfl, by first | (simp; done) | (rw [hwk]; simp), by have := HLT.out; omega, rfl, Lib.hid E8'.out.next⟩
              case measure => have h1 := HGK.out; have h2 := HLT.out; omega
      · skip
        as_aux_lemma =>
          have hd : decide ((k : Int) < (xs.length : Int)) = false := by simp; omega
          have hke : k = xs.length := by omega
          have HPL := Lib.hid (show P.length ≤ 20000 by have := HI.out.pl; have := HI.out.os8.1; omega)
          have hw1 : wrap64 ct = ct := IntWalk.wrap64_in _ (by have := HWC.out; omega)
          have hw2 : wrap64 ((P.length : Int) + 1) = (P.length : Int) + 1 := IntWalk.wrap64_in _ (by have := HPL.out; omega)
          have hnz : ¬ ((P.length : Int) + 1 = 0) := by omega
          have hnz2 : (((P.length : Int) + 1) == 0) = false := by simpa using hnz
          obtain ⟨K, hK1, hK2⟩ : ∃ K : Nat, ct.tmod ((P.length : Int) + 1) = (K : Int) ∧ K ≤ P.length := by
            have q1 := Int.tmod_nonneg ((P.length : Int) + 1) HWC.out.1
            have q2 := Int.tmod_lt_of_pos ct (show (0 : Int) < (P.length : Int) + 1 by omega)
            exact ⟨(ct.tmod ((P.length : Int) + 1)).toNat, by omega, by omega⟩
          have NR := Lib.hid (NewR_any wr)
          have HK2 := Lib.hid hK2
          have hsl := fun W => slice_upto_is A1 c1 P.length K .i64 (K : Int) rfl hK2 (OwnV.capI HI.out.p).1 W
          go_wp2_with fail
          refine NR.out.mono ?_
          rintro e w1 ⟨gr, rfl, rb1, hgr, b1⟩
          have hlen : (P.take K).length = K := by rw [List.length_take]; have := HK2.out; omega
          have PT : Calls Tryd.prog 18 #[.pointer (some ⟨gr, 0, none⟩), .slice A1 (P.take K).length c1, .bool true] w1 fun r w' => PutTo w1 w' gr 0 ((P.take K).length + 5) none (P.take K) true { ird0 with held := P.take K } r := Put_any gr 0 c1 ird0 none 0 A1 (P.take K) true w1 rb1 (Own.nil _ _) rfl (rd_upto (Rd.below (Rd.of_own HI.out.p) b1) HK2.out) Bytes.nil (HI.out.by_.take K) (by rw [hlen]; have := HPL.out; have := HK2.out; simp [ird0]; omega) (Nat.zero_le _)
          have HRUN := Lib.hid (ends_run (s := { ird0 with held := P.take K }) (n := (P.take K).length + 5) (k := K) HHK.out HK1.out.symm rfl rfl (fun o ho => (HI.out.ok o ho).1) HI.out.pw (by rw [hlen]; omega) (by rw [← HI.out.eP]; exact HK2.out))
          rw [← HI.out.eP] at HRUN
          obtain ⟨AL, hAL⟩ : ∃ l, l = P.take K := ⟨_, rfl⟩
          rw [← hAL] at PT HRUN hlen
          rw [hlen] at PT HRUN
          have HPT := Lib.hid PT
          have HB1 := Lib.hid b1
          have HGR := Lib.hid hgr
          clear PT b1 hgr rb1 hAL hlen NR
          go_wp2_with fail
          refine HPT.out.mono ?_
          intro e w2 q2
          have f2 := q2.fr
          obtain ⟨⟨oA, oc, rs, rfl, _, _, _, _⟩, _⟩ := q2
          have B2 := HB1.out.trans (f2.below HB1.out.size (fun b hb e => by have := HGR.out; rcases e with e | e; omega; cases e))
          have M2 := HI.out.m.below B2
          have hlk := M2.look (x := (K : Int)) (wfJ (by omega) (by have := HK2.out; have := HPL.out; omega))
          have HB2 := Lib.hid (HI.out.bel.trans (B2.mono HI.out.bel.size))
          have hmem := HI.out.mT K
          rw [HRUN.out]
          clear f2 B2 M2 HPT hsl
          by_cases hm : ((K : Int) ∈ TT)
          · have hd3 : decide ((K : Int) ∈ TT) = true := by simpa using hm
            rw [hd3] at hlk
            rw [if_pos (hmem.1 hm), show settleE 0 true = 0 from rfl]
            clear hmem hm hd3
            go_wp2_with fail
            show P9 _ _
            rw [HP.out]
            exact ⟨rfl, HB2.out⟩
          · have hd3 : decide ((K : Int) ∈ TT) = false := by simpa using hm
            rw [hd3] at hlk
            rw [if_neg (fun e => hm (hmem.2 e)), show settleE 2 true = 4 from rfl]
            clear hmem hm hd3
            go_wp2_with fail
            show P9 _ _
            rw [HP.out]
            exact ⟨rfl, HB2.out⟩
end Go.Proofs.YtpaglcojbcndoaaDoor
