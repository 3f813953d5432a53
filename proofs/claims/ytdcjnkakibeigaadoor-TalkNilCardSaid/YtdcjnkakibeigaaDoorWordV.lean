/-
  The reference's Same (made by mkWordV.py).
-/
import Derived.Test.YtdcjnkakibeigaaDoorWordT
import Derived.Deep.QuietTactic
import Derived.BigQuiet
namespace Go.Proofs.YtdcjnkakibeigaaDoor
open Go.RowKit
set_option linter.unusedVariables false
set_option linter.unusedSimpArgs false
/-- Are two messages alike? -/
def sameMB (a b : MV) : Bool := decide (a.vers = b.vers) && !(a.kind != b.kind || a.id != b.id || a.alias_ != b.alias_ || a.prio != b.prio || a.ord != b.ord || a.some_ != b.some_ || a.code != b.code || a.n != b.n || a.ver != b.ver) && (!lessB a.sg a.so b.sg b.so && !lessB b.sg b.so a.sg a.so && !lessB a.eg a.eo b.eg b.eo && !lessB b.eg b.eo a.eg a.eo && sameB a.name b.name && sameB a.reason b.reason)
theorem lessB_same (a b : Int) : lessB a b a b = false := by unfold lessB; simp
theorem lessB_eq {a b c d : Int} (h1 : lessB a b c d = false) (h2 : lessB c d a b = false) : a = c ∧ b = d := by
  unfold lessB at h1 h2
  by_cases h : a = c
  · subst h
    simp at h1 h2
    exact ⟨rfl, by omega⟩
  · rw [if_neg h] at h1
    rw [if_neg (fun e => h e.symm)] at h2
    simp at h1 h2
    omega
theorem sameMB_iff (a b : MV) : sameMB a b = true ↔ a = b := by
  constructor
  · intro h
    unfold sameMB at h
    simp only [Bool.and_eq_true, Bool.not_eq_true', decide_eq_true_eq, Bool.or_eq_false_iff, bne_eq_false_iff_eq, sameB] at h
    obtain ⟨⟨hv, h0⟩, ⟨⟨⟨⟨h1, h2⟩, h3⟩, h4⟩, h5⟩, h6⟩ := h
    obtain ⟨⟨⟨⟨⟨⟨⟨⟨g0, g1⟩, g2⟩, g3⟩, g4⟩, g5⟩, g6⟩, g7⟩, g8⟩ := h0
    obtain ⟨e1, e2⟩ := lessB_eq h1 h2
    obtain ⟨e3, e4⟩ := lessB_eq h3 h4
    cases a; cases b
    simp_all
  · rintro rfl
    unfold sameMB
    simp [lessB_same, sameB]
theorem below_drewNW {B : Nat} {a w : World} (h : Below B a w) (k : Nat) : Below B a (w.drewN k) := ⟨h.os, h.tape, h.output, h.size, h.block⟩
structure SmBx (w W : World) (a b : MV) (anA : Option Addr) (anc : Nat) (arA : Option Addr) (arc : Nat) (avA : Option Addr) (avc : Nat) (bnA : Option Addr) (bnc : Nat) (brA : Option Addr) (brc : Nat) (bvA : Option Addr) (bvc : Nat) : Prop where
  a : Blk W w.heap.size 28 #[.int .u64 a.kind, .int .u64 a.id, .int .u64 a.alias_, .slice anA a.name.length anc, .int .u8 a.prio, .int .u8 a.ord, .int .u64 a.sg, .int .u64 a.so, .int .u64 a.eg, .int .u64 a.eo, .bool a.some_, .int .u64 a.code, .slice arA a.reason.length arc, .int .u64 a.n, .int .u64 a.ver, .slice avA a.vers.length avc]
  b : Blk W (w.heap.size + 1) 28 #[.int .u64 b.kind, .int .u64 b.id, .int .u64 b.alias_, .slice bnA b.name.length bnc, .int .u8 b.prio, .int .u8 b.ord, .int .u64 b.sg, .int .u64 b.so, .int .u64 b.eg, .int .u64 b.eo, .bool b.some_, .int .u64 b.code, .slice brA b.reason.length brc, .int .u64 b.n, .int .u64 b.ver, .slice bvA b.vers.length bvc]
  bel : Below w.heap.size w W
set_option maxRecDepth 100000 in
set_option maxHeartbeats 3200000 in
theorem sameW_any (a b : MV) (anA : Option Addr) (anc : Nat) (arA : Option Addr) (arc : Nat) (avA : Option Addr) (avc : Nat) (bnA : Option Addr) (bnc : Nat) (brA : Option Addr) (brc : Nat) (bvA : Option Addr) (bvc : Nat) (w : World)
    (han : Rd w anA a.name) (har : Rd w arA a.reason) (hav : RdI .u64 w avA a.vers) (hbn : Rd w bnA b.name) (hbr : Rd w brA b.reason) (hbv : RdI .u64 w bvA b.vers)
    (y1 : Bytes a.name) (y2 : Bytes a.reason) (y3 : Bytes b.name) (y4 : Bytes b.reason) (hl1 : a.vers.length ≤ 1000000) (hl2 : b.vers.length ≤ 1000000) :
    Calls Tryd.prog 12 #[.agg (mvC a anA anc arA arc avA avc), .agg (mvC b bnA bnc brA brc bvA bvc)] w fun r w' => r = .returned (.bool (sameMB a b)) ∧ Below w.heap.size w w' := by
  obtain ⟨W, hW⟩ : ∃ W, W = (w.alloc (.cells #[.int .u64 a.kind, .int .u64 a.id, .int .u64 a.alias_, .slice anA a.name.length anc, .int .u8 a.prio, .int .u8 a.ord, .int .u64 a.sg, .int .u64 a.so, .int .u64 a.eg, .int .u64 a.eo, .bool a.some_, .int .u64 a.code, .slice arA a.reason.length arc, .int .u64 a.n, .int .u64 a.ver, .slice avA a.vers.length avc] 28)).alloc (.cells #[.int .u64 b.kind, .int .u64 b.id, .int .u64 b.alias_, .slice bnA b.name.length bnc, .int .u8 b.prio, .int .u8 b.ord, .int .u64 b.sg, .int .u64 b.so, .int .u64 b.eg, .int .u64 b.eo, .bool b.some_, .int .u64 b.code, .slice brA b.reason.length brc, .int .u64 b.n, .int .u64 b.ver, .slice bvA b.vers.length bvc] 28) := ⟨_, rfl⟩
  have bw : Below w.heap.size w W := by rw [hW]; exact ((Below.refl _ _).alloc (Nat.le_refl _) _).alloc (by simp) _
  have ka : Blk W w.heap.size 28 #[.int .u64 a.kind, .int .u64 a.id, .int .u64 a.alias_, .slice anA a.name.length anc, .int .u8 a.prio, .int .u8 a.ord, .int .u64 a.sg, .int .u64 a.so, .int .u64 a.eg, .int .u64 a.eo, .bool a.some_, .int .u64 a.code, .slice arA a.reason.length arc, .int .u64 a.n, .int .u64 a.ver, .slice avA a.vers.length avc] := by rw [hW]; exact (Blk.new _ _ _).alloc _
  have kb : Blk W (w.heap.size + 1) 28 #[.int .u64 b.kind, .int .u64 b.id, .int .u64 b.alias_, .slice bnA b.name.length bnc, .int .u8 b.prio, .int .u8 b.ord, .int .u64 b.sg, .int .u64 b.so, .int .u64 b.eg, .int .u64 b.eo, .bool b.some_, .int .u64 b.code, .slice brA b.reason.length brc, .int .u64 b.n, .int .u64 b.ver, .slice bvA b.vers.length bvc] := by rw [hW]; exact blk_2ndW _ _ _ _
  have KA := Lib.hid ka
  have KB := Lib.hid kb
  have B0 := Lib.hid bw
  have za := ka.lt
  have zb := kb.lt
  have a0 := ka.cell 0
  have a1 := ka.cell 1
  have a2 := ka.cell 2
  have a3 := ka.cell 3
  have a4 := ka.cell 4
  have a5 := ka.cell 5
  have a6 := ka.cell 6
  have a7 := ka.cell 7
  have a8 := ka.cell 8
  have a9 := ka.cell 9
  have a10 := ka.cell 10
  have a11 := ka.cell 11
  have a12 := ka.cell 12
  have a13 := ka.cell 13
  have a14 := ka.cell 14
  have a15 := ka.cell 15
  have b0 := kb.cell 0
  have b1 := kb.cell 1
  have b2 := kb.cell 2
  have b3 := kb.cell 3
  have b4 := kb.cell 4
  have b5 := kb.cell 5
  have b6 := kb.cell 6
  have b7 := kb.cell 7
  have b8 := kb.cell 8
  have b9 := kb.cell 9
  have b10 := kb.cell 10
  have b11 := kb.cell 11
  have b12 := kb.cell 12
  have b13 := kb.cell 13
  have b14 := kb.cell 14
  have b15 := kb.cell 15
  simp only [List.getElem?_toArray, List.getElem?_cons_zero, List.getElem?_cons_succ] at a0 a1 a2 a3 a4 a5 a6 a7 a8 a9 a10 a11 a12 a13 a14 a15 b0 b1 b2 b3 b4 b5 b6 b7 b8 b9 b10 b11 b12 b13 b14 b15
  have HAV := Lib.hid (RdI.below hav bw)
  have HBV := Lib.hid (RdI.below hbv bw)
  have CN := Lib.hid (fun W' (hb : Below w.heap.size w W') => same_any anA bnA anc bnc a.name b.name W' (Rd.below han hb) (Rd.below hbn hb) y1 y3)
  have CR := Lib.hid (fun W' (hb : Below w.heap.size w W') => same_any arA brA arc brc a.reason b.reason W' (Rd.below har hb) (Rd.below hbr hb) y2 y4)
  obtain ⟨R, hR⟩ : ∃ R, R = sameMB a b := ⟨_, rfl⟩
  rw [← hR]
  unfold sameMB at hR
  have HR := Lib.hid hR
  have HW := Lib.hid hW
  unfold mvC
  clear hW hR bw ka kb han har hav hbn hbr hbv y1 y2 y3 y4
  go_enter Tryd.func12, Tryd.ntmps12
  go_upto_region 1 with (fail)
  rw [← HW.out]
  by_cases hlen : a.vers.length = b.vers.length
  · have hq : ((a.vers.length : Int) != (b.vers.length : Int)) = false := by simp [hlen]
    go_wp2_with fail
    go_loopw [16] (fun i wr => ∃ (k q : Nat), k ≤ a.vers.length ∧ i = .int .i64 k ∧ wr = W.drewN q ∧ Hid (a.vers.take k = b.vers.take k)) (fun i _ => a.vers.length - (intOf i).toNat)
    case atStart => exact ⟨0, 0, by omega, rfl, rfl, Lib.hid rfl⟩
    case round =>
      obtain ⟨k, q, hk, rfl, rfl, HT⟩ := hrel
      by_cases hlt : k < a.vers.length
      · obtain ⟨ba, oa, x, rfl, ha1, hx, ha2⟩ := HAV.out.at_ hlt
        obtain ⟨bb, ob, y, rfl, hb1, hy, hb2⟩ := HBV.out.at_ (show k < b.vers.length by omega)
        have k0 : (0 : Int) ≤ (k : Int) := by omega
        have k1 : (k : Int) < (a.vers.length : Int) := by omega
        have k2 : (k : Int) < (b.vers.length : Int) := by omega
        have HX := Lib.hid hx
        have HY := Lib.hid hy
        clear hx hy
        by_cases hxy : x = y
        · have hc : (x != y) = false := by simp [hxy]
          have HT2 := Lib.hid (show a.vers.take (k + 1) = b.vers.take (k + 1) by rw [List.take_add_one, List.take_add_one, HT.out, HX.out, HY.out, hxy])
          clear hxy
          go_wp2_with fail
          go_quiet (fail)
          go_wp2_with fail
          go_roundw
          case rel => exact ⟨k + 1, _, by omega, by go_num, rfl, HT2⟩
          case measure => simp [intOf]; omega
        · have hc : (x != y) = true := by simpa using hxy
          have HNE := Lib.hid (show a.vers ≠ b.vers from fun e => hxy (by have h1 := HX.out; have h2 := HY.out; rw [e, h2] at h1; injection h1 with h1; exact h1.symm))
          clear hxy
          go_wp2_with fail
          go_quiet (fail)
          go_wp2_with fail
          go_ret
          refine ⟨?_, below_drewNW (below_drewNW B0.out _) _⟩
          rw [HR.out, decide_eq_false HNE.out]
          simp
      · have hd : decide (k < a.vers.length) = false := by simpa using hlt
        have HV := Lib.hid (show a.vers = b.vers by have h := HT.out; rwa [List.take_of_length_le (by omega), List.take_of_length_le (by omega)] at h)
        go_wp2_with fail
        rotate_left
        all_goals first
          | (go_ret
             refine ⟨?_, below_drewNW B0.out _⟩
             rw [HR.out]
             simp [*]
             done)
          | skip
        have HR2 := Lib.hid (show R = (!lessB a.sg a.so b.sg b.so && !lessB b.sg b.so a.sg a.so && !lessB a.eg a.eo b.eg b.eo && !lessB b.eg b.eo a.eg a.eo && sameB a.name b.name && sameB a.reason b.reason) by rw [HR.out, decide_eq_true HV.out]; simp [*])
        have C1 := Lib.hid (fun W' => refLessW_any a.sg a.so b.sg b.so W')
        have C2 := Lib.hid (fun W' => refLessW_any b.sg b.so a.sg a.so W')
        have C3 := Lib.hid (fun W' => refLessW_any a.eg a.eo b.eg b.eo W')
        have C4 := Lib.hid (fun W' => refLessW_any b.eg b.eo a.eg a.eo W')
        generalize lessB a.sg a.so b.sg b.so = l1 at C1 HR2
        generalize lessB b.sg b.so a.sg a.so = l2 at C2 HR2
        generalize lessB a.eg a.eo b.eg b.eo = l3 at C3 HR2
        generalize lessB b.eg b.eo a.eg a.eo = l4 at C4 HR2
        generalize sameB a.name b.name = l5 at CN HR2
        generalize sameB a.reason b.reason = l6 at CR HR2
        have KA0 := Lib.hid (KA.out.drewN q)
        have KB0 := Lib.hid (KB.out.drewN q)
        have B00 := Lib.hid (below_drewNW B0.out q)
        obtain ⟨w0, hw0⟩ : ∃ w0, w0 = W.drewN q := ⟨_, rfl⟩
        rw [← hw0] at KA0 KB0 B00 ⊢
        clear hw0 KA KB B0 HR HV HAV HBV HT a0 a1 a2 a3 a4 a5 a6 a7 a8 a9 a10 a11 a12 a13 a14 a15 b0 b1 b2 b3 b4 b5 b6 b7 b8 b9 b10 b11 b12 b13 b14 b15 za zb
        refine (C1.out w0).mono ?_
        rintro e w1 ⟨rfl, b⟩
        have KA1 := Lib.hid (KA0.out.below b KA0.out.lt)
        have KB1 := Lib.hid (KB0.out.below b KB0.out.lt)
        have B01 := Lib.hid (B00.out.trans (b.mono B00.out.size))
        have ka := KA1.out
        have kb := KB1.out
        have za := ka.lt
        have zb := kb.lt
        have a3 := ka.cell 3
        have b3 := kb.cell 3
        have a6 := ka.cell 6
        have b6 := kb.cell 6
        have a7 := ka.cell 7
        have b7 := kb.cell 7
        have a8 := ka.cell 8
        have b8 := kb.cell 8
        have a9 := ka.cell 9
        have b9 := kb.cell 9
        have a12 := ka.cell 12
        have b12 := kb.cell 12
        simp only [List.getElem?_toArray, List.getElem?_cons_zero, List.getElem?_cons_succ] at a3 b3 a6 b6 a7 b7 a8 b8 a9 b9 a12 b12
        clear b ka kb KA0 KB0 B00 C1
        cases l1 with
        | true =>
          go_wp2_with fail
          go_ret
          exact ⟨by rw [HR2.out]; simp, B01.out⟩
        | false =>
          go_wp2_with fail
          refine (C2.out _).mono ?_
          rintro e w2 ⟨rfl, b⟩
          have KA2 := Lib.hid (KA1.out.below b KA1.out.lt)
          have KB2 := Lib.hid (KB1.out.below b KB1.out.lt)
          have B02 := Lib.hid (B01.out.trans (b.mono B01.out.size))
          have ka := KA2.out
          have kb := KB2.out
          have za := ka.lt
          have zb := kb.lt
          have a3 := ka.cell 3
          have b3 := kb.cell 3
          have a6 := ka.cell 6
          have b6 := kb.cell 6
          have a7 := ka.cell 7
          have b7 := kb.cell 7
          have a8 := ka.cell 8
          have b8 := kb.cell 8
          have a9 := ka.cell 9
          have b9 := kb.cell 9
          have a12 := ka.cell 12
          have b12 := kb.cell 12
          simp only [List.getElem?_toArray, List.getElem?_cons_zero, List.getElem?_cons_succ] at a3 b3 a6 b6 a7 b7 a8 b8 a9 b9 a12 b12
          clear b ka kb KA1 KB1 B01 C2
          cases l2 with
          | true =>
            go_wp2_with fail
            go_ret
            exact ⟨by rw [HR2.out]; simp, B02.out⟩
          | false =>
            go_wp2_with fail
            refine (C3.out _).mono ?_
            rintro e w3 ⟨rfl, b⟩
            have KA3 := Lib.hid (KA2.out.below b KA2.out.lt)
            have KB3 := Lib.hid (KB2.out.below b KB2.out.lt)
            have B03 := Lib.hid (B02.out.trans (b.mono B02.out.size))
            have ka := KA3.out
            have kb := KB3.out
            have za := ka.lt
            have zb := kb.lt
            have a3 := ka.cell 3
            have b3 := kb.cell 3
            have a6 := ka.cell 6
            have b6 := kb.cell 6
            have a7 := ka.cell 7
            have b7 := kb.cell 7
            have a8 := ka.cell 8
            have b8 := kb.cell 8
            have a9 := ka.cell 9
            have b9 := kb.cell 9
            have a12 := ka.cell 12
            have b12 := kb.cell 12
            simp only [List.getElem?_toArray, List.getElem?_cons_zero, List.getElem?_cons_succ] at a3 b3 a6 b6 a7 b7 a8 b8 a9 b9 a12 b12
            clear b ka kb KA2 KB2 B02 C3
            cases l3 with
            | true =>
              go_wp2_with fail
              go_ret
              exact ⟨by rw [HR2.out]; simp, B03.out⟩
            | false =>
              go_wp2_with fail
              refine (C4.out _).mono ?_
              rintro e w4 ⟨rfl, b⟩
              have KA4 := Lib.hid (KA3.out.below b KA3.out.lt)
              have KB4 := Lib.hid (KB3.out.below b KB3.out.lt)
              have B04 := Lib.hid (B03.out.trans (b.mono B03.out.size))
              have ka := KA4.out
              have kb := KB4.out
              have za := ka.lt
              have zb := kb.lt
              have a3 := ka.cell 3
              have b3 := kb.cell 3
              have a6 := ka.cell 6
              have b6 := kb.cell 6
              have a7 := ka.cell 7
              have b7 := kb.cell 7
              have a8 := ka.cell 8
              have b8 := kb.cell 8
              have a9 := ka.cell 9
              have b9 := kb.cell 9
              have a12 := ka.cell 12
              have b12 := kb.cell 12
              simp only [List.getElem?_toArray, List.getElem?_cons_zero, List.getElem?_cons_succ] at a3 b3 a6 b6 a7 b7 a8 b8 a9 b9 a12 b12
              clear b ka kb KA3 KB3 B03 C4
              cases l4 with
              | true =>
                go_wp2_with fail
                go_ret
                exact ⟨by rw [HR2.out]; simp, B04.out⟩
              | false =>
                go_wp2_with fail
                refine (CN.out _ B04.out).mono ?_
                rintro e w5 ⟨rfl, hh⟩
                subst hh
                cases l5 with
                | false =>
                  go_wp2_with fail
                  go_ret
                  exact ⟨by rw [HR2.out]; simp, B04.out⟩
                | true =>
                  go_wp2_with fail
                  refine (CR.out _ B04.out).mono ?_
                  rintro e w6 ⟨rfl, hh⟩
                  subst hh
                  go_wp2_with fail
                  go_ret
                  exact ⟨by rw [HR2.out]; simp, B04.out⟩
  · have hq : ((a.vers.length : Int) != (b.vers.length : Int)) = true := by simp; omega
    go_wp2_with fail
    go_ret
    refine ⟨?_, B0.out⟩
    rw [HR.out, decide_eq_false (fun e => hlen (by rw [e]))]
    simp
end Go.Proofs.YtdcjnkakibeigaaDoor
