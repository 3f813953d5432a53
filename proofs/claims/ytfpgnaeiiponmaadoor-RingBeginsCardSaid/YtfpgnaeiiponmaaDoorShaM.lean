import Derived.Test.YtfpgnaeiiponmaaDoorShaL
namespace Go.Proofs.YtfpgnaeiiponmaaDoor
open Go.RowKit
set_option linter.unusedVariables false

theorem Blk.rd {w : World} {g : Nat} {t : TypeId} {l : List Int} (h : Blk w g t (IV .u8 l).toArray) : Rd w (some ⟨g, 0, none⟩) l :=
  ⟨by simp [U8], fun _ => ⟨_, rfl, h.lt, fun j u hu => by
    rw [Addr.add_mid, Nat.zero_add, h.cell]
    simpa [U8, IV] using hu⟩⟩
theorem Blk.sl {w : World} {g : Nat} {t : TypeId} {l : List Int} (h : Blk w g t (IV .u8 l).toArray) {n c : Nat} (hn : l.length = n) (hc : n ≤ c) (hm : c ≤ 9223372036854775807) : Sl w (some ⟨g, 0, none⟩) c l :=
  ⟨h.rd, by omega, hm, by intro h; cases h⟩
theorem Blk.range {w : World} {g : Nat} {t : TypeId} {cs : List Value} (h : Blk w g t cs.toArray) : w.rangeAt g 0 cs := fun j v hj => by
  rw [Nat.zero_add, h.cell]
  simpa using hj
theorem Blk.there_ {w : World} {g : Nat} {t : TypeId} {cs : Array Value} (h : Blk w g t cs) {n : Nat} (hn : n ≤ cs.size) : w.there g 0 n := fun j hj => by
  rw [Nat.zero_add]
  exact ⟨by rw [h.cell, Array.getElem?_eq_getElem (by omega)]; rfl, h.frozen j⟩
theorem Blk.setPut {g : Nat} {t : TypeId} : ∀ (vs : List Value) (o : Nat) (cs : List Value) (w : World), Blk w g t cs.toArray → o + vs.length ≤ cs.length → Blk (w.setCells g o vs) g t (cs.take o ++ vs ++ cs.drop (o + vs.length)).toArray
  | [], o, cs, w, h, _ => by simpa [World.setCells] using h
  | v :: r, o, cs, w, h, hl => by
    simp only [List.length_cons] at hl
    have h1 := h.set_ o v
    rw [List.setIfInBounds_toArray] at h1
    have h2 := Blk.setPut r (o + 1) (cs.set o v) _ h1 (by rw [List.length_set]; omega)
    have e : (cs.set o v).take (o + 1) ++ r ++ (cs.set o v).drop (o + 1 + r.length) = cs.take o ++ (v :: r) ++ cs.drop (o + (v :: r).length) := by
      rw [List.drop_set_of_lt (by omega), List.take_set, List.set_eq_take_append_cons_drop, if_pos (by rw [List.length_take]; omega), List.length_cons, show o + 1 + r.length = o + (r.length + 1) by omega]
      rw [List.take_take, Nat.min_eq_left (by omega), List.drop_of_length_le (by rw [List.length_take]; omega)]
      simp
    rw [e] at h2
    exact h2
theorem Blk.setAll {w : World} {g : Nat} {t : TypeId} {cs : Array Value} (h : Blk w g t cs) {vs : List Value} (hl : vs.length = cs.size) : Blk (w.setCells g 0 vs) g t vs.toArray := by
  have h1 := Blk.setPut vs 0 cs.toList w (by simpa using h) (by simp [hl])
  have e : cs.toList.take 0 ++ vs ++ cs.toList.drop (0 + vs.length) = vs := by
    rw [List.drop_of_length_le (by simp [hl])]
    simp
  rw [e] at h1
  exact h1
theorem below_setCells {B : Nat} {a w : World} (h : Below B a w) {g : Nat} (hg : B ≤ g) (hB : B ≤ w.heap.size) (o : Nat) (vs : List Value) : Below B a (w.setCells g o vs) :=
  h.grown (only_setCells vs o w (World.grownBy.refl w _)) hB (by rintro _ ⟨⟩; exact hg)
theorem grown_below {B : Nat} {a w w' : World} {g : Nat} (h : Below B a w) (hg : w.grownBy w' (some g)) (hB : B ≤ w.heap.size) (hr : B ≤ g) : Below B a w' := h.grown hg hB (by rintro _ ⟨⟩; exact hr)

set_option maxRecDepth 100000 in
set_option maxHeartbeats 1600000 in
theorem Mac_any (A : Option Addr) (c : Nat) (key : List Int) (B : Option Addr) (d : Nat) (xs : List (Option Addr × Nat × List Int)) (w : World) (hs : Sl w A c key) (hb : Bytes key) (hr : RdBs w B xs) (hd : xs.length ≤ d) (hm : d ≤ 9223372036854775807) (hS : STab w) (hK : KTab w) (hkl : key.length ≤ 576460752303423488) (hlen : (flat xs).length ≤ 576460752303423000) :
    Calls Tryd.prog 13 #[.slice A key.length c, .slice B xs.length d] w fun r w' => r = .returned (.agg (IV .u8 (hmac key (flat xs))).toArray) ∧ Below w.heap.size w w' := by
  have hk1 := hK.1
  obtain ⟨OUT, hOUT⟩ : ∃ OUT, OUT = hmac key (flat xs) := ⟨_, rfl⟩
  obtain ⟨KB, hKB⟩ : ∃ KB, KB = kblk key := ⟨_, rfl⟩
  have hkbl : KB.length = 64 := by rw [hKB]; exact kblk_length key
  have hkbb : Bytes KB := by rw [hKB]; exact kblk_bytes hb
  obtain ⟨IN, hIN⟩ : ∃ IN, IN = sha (mskd KB 54 ++ flat xs) := ⟨_, rfl⟩
  have hinl : IN.length = 32 := by rw [hIN]; exact sha_length _
  have hinb : Bytes IN := by rw [hIN]; exact sha_bytes _
  have hout : OUT = sha (mskd KB 92 ++ IN) := by rw [hOUT, hIN, hKB]; rfl
  obtain ⟨Z64, hZ64⟩ : ∃ Z, Z = (IV .u8 (List.replicate 64 0)).toArray := ⟨_, rfl⟩
  obtain ⟨Z32, hZ32⟩ : ∃ Z, Z = (IV .u8 (List.replicate 32 0)).toArray := ⟨_, rfl⟩
  have hz64 : ∀ w, (zeroValue 50).run Tryd.prog w = .ok (.agg Z64) w := by rw [hZ64]; exact zero64
  have hz32 : ∀ w, (zeroValue 29).run Tryd.prog w = .ok (.agg Z32) w := by rw [hZ32]; exact zero32
  have HZS64 := Lib.hid (show Z64.size = 64 by rw [hZ64]; rfl)
  have HZS32 := Lib.hid (show Z32.size = 32 by rw [hZ32]; rfl)
  have I64 := Lib.hid (show (Tryd.prog.info? 50).map (·.size) = some 64 by kernel_rfl)
  have I32 := Lib.hid (show (Tryd.prog.info? 29).map (·.size) = some 32 by kernel_rfl)
  have SKB := Lib.hid (show (IV .u8 KB).toArray.size = 64 by simp [IV, hkbl])
  have AKB := Lib.hid (show (IV .u8 KB).toArray.all (·.oneCell') = true by simp [IV, Value.oneCell'])
  have SIN := Lib.hid (show (IV .u8 IN).toArray.size = 32 by simp [IV, hinl])
  have AIN := Lib.hid (show (IV .u8 IN).toArray.all (·.oneCell') = true by simp [IV, Value.oneCell'])
  have SOUT := Lib.hid (show (IV .u8 OUT).toArray.size = 32 by rw [hOUT]; simp [IV, hmac_length])
  have AOUT := Lib.hid (show (IV .u8 OUT).toArray.all (·.oneCell') = true by simp [IV, Value.oneCell'])
  have C1 := Lib.hid (keyBlock_any A c key (w.alloc (.cells Z32 29)) (hs.alloc _) hb (hS.below ((Below.refl _ _).alloc (Nat.le_refl _) _)) (hK.below ((Below.refl _ _).alloc (Nat.le_refl _) _)) hkl)
  rw [← hKB] at C1
  rw [← hOUT]
  have HKBL := Lib.hid hkbl
  have HKBB := Lib.hid hkbb
  have HIN := Lib.hid hIN
  have HINL := Lib.hid hinl
  have HINB := Lib.hid hinb
  have HOUT := Lib.hid hout
  have HR := Lib.hid hr
  have HS := Lib.hid hS
  have HK := Lib.hid hK
  have lm : ∀ x, (mskd KB x).length = 64 := fun x => by rw [mskd_length, hkbl]
  have HLM := Lib.hid lm
  clear hs hr hS hK hZ64 hZ32 hOUT hKB hkbl hkbb hIN hinl hinb hout lm
  go_enter Tryd.func13, Tryd.ntmps13
  go_wp2_with fail
  refine C1.out.mono ?_
  rintro e w1 ⟨rfl, b1⟩
  have R1 := Lib.hid (show Blk w1 w.heap.size 29 Z32 from (Blk.new w _ Z32).below b1 (by simp))
  have BL1 := Lib.hid (show Below w.heap.size w w1 from ((Below.refl _ _).alloc (Nat.le_refl _) _).trans (b1.mono (by simp)))
  have lt1 : w.heap.size < w1.heap.size := R1.out.lt
  clear b1 C1
  go_wp2_with (refine wpList_store_row rfl 50 (.tmp 5) (.tmp 11) rfl w1.heap.size (IV .u8 KB).toArray rfl rfl 50 Z64 (Blk.new w1 _ _) (by rw [SKB.out]; exact I64.out) (by rw [SKB.out, HZS64.out]) AKB.out ?_
               have K2 := Lib.hid (Blk.row (Blk.new w1 50 Z64) (IV .u8 KB).toArray)
               have B2 := Lib.hid (below_setRow ((Below.refl w1.heap.size w1).alloc (Nat.le_refl _) (.cells Z64 50)) (Nat.le_refl _) (IV .u8 KB).toArray)
               generalize (w1.alloc (.cells Z64 50)).setRow w1.heap.size (IV .u8 KB).toArray = w2 at K2 B2 ⊢)
  have R2 := Lib.hid (R1.out.below B2.out lt1)
  have BL2 := Lib.hid (BL1.out.trans (B2.out.mono (by omega)))
  have lt2 : w1.heap.size < w2.heap.size := K2.out.lt
  clear R1 B2 BL1
  refine (newDigest_any w2 (HS.out.below BL2.out)).mono ?_
  rintro e w3 ⟨g, rfl, hg, hs3, b3⟩
  have R3 := Lib.hid (R2.out.below b3 (by omega))
  have K3 := Lib.hid (K2.out.below b3 (by omega))
  have BL3 := Lib.hid (BL2.out.trans (b3.mono (by omega)))
  have lt3 : w2.heap.size ≤ w3.heap.size := b3.size
  have H3 := Lib.hid hs3
  have lg3 : g < w3.heap.size := by obtain ⟨_, _, _, hD, _⟩ := hs3; exact hD.1.lt
  have C2 := Lib.hid (masked_any KB 54 w3 HKBL.out HKBB.out (by decide))
  clear b3 hs3 R2 K2 BL2
  go_wp2_with (first
    | refine wpList_load_row rfl 50 (.tmp 5) rfl w1.heap.size rfl 50 (IV .u8 KB).toArray (0, 0) _ K3.out Tryd.underlying50 rfl (by rw [SKB.out]; exact I64.out) ?_)
  refine C2.out.mono ?_
  rintro e w4 ⟨g4, rfl, hg4, m4, b4⟩
  have C3 := Lib.hid (write_any g st0 [] (mskd KB 54) (some ⟨g4, 0, none⟩) 64 w4 (H3.out.below b4 lg3) m4.rd (mskd_bytes HKBB.out (by decide)) (by rintro - a ⟨⟩; show g4 ≠ g; omega) (by rw [HLM.out]; omega) (HK.out.below (BL3.out.trans (b4.mono (by omega)))) (by omega) (by rw [HLM.out]; decide))
  rw [HLM.out] at C3
  have R4 := Lib.hid (R3.out.below b4 (by omega))
  have K4 := Lib.hid (K3.out.below b4 (by omega))
  have BL4 := Lib.hid (BL3.out.trans (b4.mono (by omega)))
  clear C2 m4 b4 R3 K3 BL3 H3
  go_wp2_with fail
  refine C3.out.mono ?_
  rintro e w5 ⟨rfl, hs5, o5⟩
  rw [List.nil_append] at hs5
  have H5 := Lib.hid hs5
  have R5 := Lib.hid (R4.out.grown o5 (by simp; omega))
  have K5 := Lib.hid (K4.out.grown o5 (by simp; omega))
  have BL5 := Lib.hid (grown_below BL4.out o5 BL4.out.size (by omega))
  clear hs5 o5 R4 K4 BL4 C3
  go_wp2_with fail
  go_loopw [19] (fun i wr => ∃ k : Nat, k ≤ xs.length ∧ i = .int .i64 k ∧ Hs wr g st0 (mskd KB 54 ++ flat (xs.take k)) (mskd KB 54 ++ flat (xs.take k)).length ∧ Blk wr w.heap.size 29 Z32 ∧ Blk wr w1.heap.size 50 (IV .u8 KB).toArray ∧ Below w.heap.size w wr) (fun i _ => xs.length - (intOf i).toNat)
  case atStart => exact ⟨0, by omega, rfl, by simpa [flat] using H5.out, R5.out, K5.out, BL5.out⟩
  case round =>
    obtain ⟨k, hk, rfl, hs, hR, hKB, bel⟩ := hrel
    by_cases hkl2 : k < xs.length
    · obtain ⟨b, off, rfl, hbw, hcell⟩ := (HR.out.below bel).at_ hkl2
      obtain ⟨hsx, hbx⟩ := (HR.out.below bel).each xs[k] (List.getElem_mem hkl2)
      have hlow := HR.out.lower hkl2
      have hfl := flat_at_le hkl2
      have htk := flat_snoc hkl2
      obtain ⟨x, hx⟩ : ∃ x, x = xs[k] := ⟨_, rfl⟩
      rw [← hx] at hcell hsx hbx hlow hfl htk
      clear hx
      obtain ⟨xa, xc, xl⟩ := x
      have hcell' : wr.cell? ⟨b, off + k, none⟩ = some (.slice xa xl.length xc) := hcell
      have HTK := Lib.hid htk
      have C := Lib.hid (write_any g st0 _ xl xa xc wr hs hsx.rd hbx (fun h a ha => by have := hlow h a ha; omega) hsx.le (HK.out.below bel) (by omega) (by rw [List.length_append, HLM.out]; simp only at hfl; omega))
      have RR := Lib.hid hR
      have KK := Lib.hid hKB
      have BL := Lib.hid bel
      clear hcell hs htk hR hKB bel hlow hsx hbx hfl
      go_wp2_with fail
      refine C.out.mono ?_
      rintro e w6 ⟨rfl, hs6, o6⟩
      have HS6 := Lib.hid hs6
      have O6 := Lib.hid o6
      clear hs6 o6
      go_wp2_with fail
      go_roundw
      case rel =>
        refine ⟨k + 1, by omega, by go_num, ?_, RR.out.grown O6.out (by simp; omega), KK.out.grown O6.out (by simp; omega), grown_below BL.out O6.out BL.out.size (by omega)⟩
        rw [HTK.out, ← List.append_assoc]
        exact HS6.out
      case measure => simp [intOf]; omega
    · obtain rfl : k = xs.length := by omega
      rw [List.take_of_length_le (Nat.le_refl _)] at hs
      have C := sum_any g st0 _ wr hs (HK.out.below bel) (by omega) (by rw [List.length_append, HLM.out]; omega)
      have C' : Calls Tryd.prog 25 #[.pointer (some ⟨g, 0, none⟩)] wr fun r w' => r = .returned (.agg (IV .u8 IN).toArray) ∧ wr.grownBy w' (some g) := by rw [HIN.out]; exact C
      have C2 := Lib.hid C'
      have RR := Lib.hid hR
      have KK := Lib.hid hKB
      have BL := Lib.hid bel
      clear C C' hs hR hKB bel
      go_wp2_with fail
      refine C2.out.mono ?_
      rintro e w7 ⟨rfl, o7⟩
      have R7 := Lib.hid (RR.out.grown o7 (by simp; omega))
      have K7 := Lib.hid (KK.out.grown o7 (by simp; omega))
      have BL7 := Lib.hid (grown_below BL.out o7 BL.out.size (by omega))
      have lt7 : w1.heap.size < w7.heap.size := K7.out.lt
      clear o7 RR KK BL C2
      go_wp2_with (refine wpList_store_row rfl 29 (.tmp 9) (.tmp 28) rfl w7.heap.size (IV .u8 IN).toArray rfl rfl 29 Z32 (Blk.new w7 _ _) (by rw [SIN.out]; exact I32.out) (by rw [SIN.out, HZS32.out]) AIN.out ?_
                   have G8 := Lib.hid (Blk.row (Blk.new w7 29 Z32) (IV .u8 IN).toArray)
                   have B8 := Lib.hid (below_setRow ((Below.refl w7.heap.size w7).alloc (Nat.le_refl _) (.cells Z32 29)) (Nat.le_refl _) (IV .u8 IN).toArray)
                   generalize (w7.alloc (.cells Z32 29)).setRow w7.heap.size (IV .u8 IN).toArray = w8 at G8 B8 ⊢)
      have R8 := Lib.hid (R7.out.below B8.out (by omega))
      have K8 := Lib.hid (K7.out.below B8.out lt7)
      have BL8 := Lib.hid (BL7.out.trans (B8.out.mono (by omega)))
      have lt8 : w7.heap.size < w8.heap.size := G8.out.lt
      clear R7 K7 BL7 B8
      have K9 := Lib.hid K8.out.drew
      have R9 := Lib.hid R8.out.drew
      have G9 := Lib.hid G8.out.drew
      have BL9 := Lib.hid (show Below w.heap.size w w8.drew from ⟨BL8.out.os, BL8.out.tape, BL8.out.output, BL8.out.size, BL8.out.block⟩)
      have lt9 : w8.drew.heap.size = w8.heap.size := rfl
      have KL := Lib.hid (show w1.heap.size < w8.drew.heap.size by omega)
      have RL := Lib.hid (show w.heap.size < w8.drew.heap.size by omega)
      have ZL := Lib.hid (show 32 ≤ Z32.size by rw [HZS32.out]; omega)
      have keepA : ∀ w9, Below w8.drew.heap.size w8.drew w9 → w9.rangeAt w1.heap.size 0 (IV .u8 KB) ∧ w9.there w.heap.size 0 32 := fun w9 b9 => ⟨(K9.out.below b9 KL.out).range, (R9.out.below b9 RL.out).there_ ZL.out⟩
      have KA := Lib.hid keepA
      clear keepA
      have hne1 : w1.heap.size ≠ w.heap.size := by omega
      have CS0 : ∀ (W : World) (N g9 : Nat), W.heap.size = N → Blk W g9 5 (IV .u8 (mskd KB 92)).toArray → Blk W w7.heap.size 29 (IV .u8 IN).toArray → Below w.heap.size w W → Calls Tryd.prog 12 #[.slice (some ⟨N, 0, none⟩) 2 2] (W.alloc (.cells #[.slice (some ⟨g9, 0, none⟩) 64 64, .slice (some ⟨w7.heap.size, 0, none⟩) 32 32] 22)) fun r w' => r = .returned (.agg (IV .u8 OUT).toArray) ∧ Below (N + 1) (W.alloc (.cells #[.slice (some ⟨g9, 0, none⟩) 64 64, .slice (some ⟨w7.heap.size, 0, none⟩) 32 32] 22)) w' := by
        intro W N g9 hN h1 h2 hW
        subst hN
        have bW := hW.trans (((Below.refl W.heap.size W).alloc (Nat.le_refl _) (.cells #[.slice (some ⟨g9, 0, none⟩) 64 64, .slice (some ⟨w7.heap.size, 0, none⟩) 32 32] 22)).mono hW.size)
        have hb2 : BV (some ⟨g9, 0, none⟩, 64, mskd KB 92) = .slice (some ⟨g9, 0, none⟩) 64 64 := by unfold BV; rw [HLM.out]
        have hb3 : BV (some ⟨w7.heap.size, 0, none⟩, 32, IN) = .slice (some ⟨w7.heap.size, 0, none⟩) 32 32 := by unfold BV; rw [HINL.out]
        have hn := RdBs.new (w := W) (xs := [(some ⟨g9, 0, none⟩, 64, mskd KB 92), (some ⟨w7.heap.size, 0, none⟩, 32, IN)]) 22 (by
          intro x hx
          simp only [List.mem_cons, List.not_mem_nil, or_false] at hx
          rcases hx with rfl | rfl
          · exact ⟨h1.sl (c := 64) (HLM.out _) (Nat.le_refl _) (by decide), mskd_bytes HKBB.out (by decide)⟩
          · exact ⟨h2.sl (c := 32) HINL.out (Nat.le_refl _) (by decide), HINB.out⟩)
        simp only [List.map_cons, List.map_nil, hb2, hb3] at hn
        have h := Sum_any (some ⟨W.heap.size, 0, none⟩) 2 _ _ hn (by simp) (by decide) (HS.out.below bW) (HK.out.below bW) (by rw [flat_two, List.length_append, HLM.out, HINL.out]; decide)
        rw [flat_two, ← HOUT.out] at h
        simpa using h
      have CS := Lib.hid CS0
      have hu64 := Tryd.underlying50
      have hu32 := Tryd.underlying29
      have hi64 : (Tryd.prog.info? 50).map (·.size) = some (IV .u8 KB).length := by rw [I64.out, IV_length, HKBL.out]
      have hi32 : (Tryd.prog.info? 29).map (·.size) = some (IV .u8 OUT).length := by rw [I32.out, ← SOUT.out]; simp
      have ho64 : ∀ v ∈ IV .u8 KB, v.oneCell' = true := IV_oneCell _ _
      have ho32 : ∀ v ∈ IV .u8 OUT, v.oneCell' = true := IV_oneCell _ _
      have hl64 : (IV .u8 KB).length = 64 := by rw [IV_length, HKBL.out]
      have hl32 : (IV .u8 OUT).length = 32 := by rw [← SOUT.out]; simp
      have T8 := Lib.hid (R8.out.there_ (n := 32) (by rw [HZS32.out]; omega))
      have S1 := K8.out.range
      have S2 := T8.out
      clear CS0
      go_region_held3 (fun w' => w'.rangeAt w1.heap.size 0 (IV .u8 KB) ∧ w'.there w.heap.size 0 32) (first
        | (go_keep_ranges; done)
        | exact KA.out _ b9
        | exact KA.out _ (b9.alloc h9 _)
        | exact KA.out _ b11
        | exact ⟨World.rangeAt_setCells_apart (KA.out _ b11).1 _ _ _ (.inl hne1), World.there_setCells (KA.out _ b11).2 _ _ _⟩) (first
        | (go_at_call 27; refine (masked_any KB 92 _ HKBL.out HKBB.out (by decide)).mono ?_; rintro e w9 ⟨g9, rfl, hg9, m9, b9⟩; have h9 : w8.drew.heap.size ≤ w9.heap.size := b9.size)
        | (go_at_call 12; refine (CS.out w9 _ g9 rfl m9 (G9.out.below b9 (by omega)) (BL9.out.trans (b9.mono (by omega)))).mono ?_; rintro e w10 ⟨rfl, b10⟩; have b11 : Below w8.drew.heap.size w8.drew w10 := (b9.alloc h9 _).trans (b10.mono (Nat.le_succ_of_le h9))))
      all_goals
        have R11 := R9.out.below b11 RL.out
        have R12 := Lib.hid (R11.setAll (vs := IV .u8 OUT) (by rw [hl32, HZS32.out]))
        have BL12 := Lib.hid (below_setCells (BL9.out.trans (b11.mono (by omega))) (Nat.le_refl _) (Nat.le_of_lt R11.lt) 0 (IV .u8 OUT))
        clear R11 b11 b10 b9 m9 hi64 hi32 hl64 hl32 ho64 ho32 S1 S2
        go_wp2_with fail
        refine bodyPost_ret (v := .agg (IV .u8 OUT).toArray) (results_cell_row rfl _ _ w.heap.size 29 _ (0, 0) _ rfl R12.out Tryd.underlying29 rfl (by rw [SOUT.out]; exact I32.out)) rfl ⟨rfl, BL12.out⟩
end Go.Proofs.YtfpgnaeiiponmaaDoor
