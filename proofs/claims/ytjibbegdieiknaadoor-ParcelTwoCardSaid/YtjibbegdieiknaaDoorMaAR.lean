/-
  Joined texts.
-/
import Derived.Test.YtjibbegdieiknaaDoorMaAQ
namespace Go.Proofs.YtjibbegdieiknaaDoor
set_option maxRecDepth 100000
open Go.RowKit
set_option linter.unusedVariables false

/-- A slice of slices that was made just now. -/
theorem RdBs.new {w : World} {xs : List (Option Addr × Nat × List Int)} (T : TypeId) (h : ∀ x ∈ xs, Sl w x.1 x.2.1 x.2.2 ∧ Bytes x.2.2) : RdBs (w.alloc (.cells (xs.map BV).toArray T)) (some ⟨w.heap.size, 0, none⟩) xs := by
  refine ⟨⟨by simp, fun hn => ⟨_, rfl, by simp, fun j u hu => ?_⟩⟩, fun x hx => ⟨(h x hx).1.alloc _, (h x hx).2⟩⟩
  have e : (Addr.add ⟨w.heap.size, 0, none⟩ j) = ⟨w.heap.size, j, none⟩ := by
    unfold Addr.add
    by_cases h0 : j = 0 <;> simp [h0]
  rw [e, (Blk.new w T _).cell]
  simpa using hu
theorem flat_one (A : Option Addr) (c : Nat) (l : List Int) : flat [(A, c, l)] = l := by simp [flat]
theorem flat_two (A B : Option Addr) (c d : Nat) (l m : List Int) : flat [(A, c, l), (B, d, m)] = l ++ m := by simp [flat]
theorem splice_pad (k : List Int) (h : k.length ≤ 64) : splice (IV .u8 (List.replicate 64 0)) 0 (IV .u8 k) = IV .u8 (kpad k) := by
  unfold splice kpad
  rw [IV_append, IV_length, Nat.zero_add]
  simp only [IV, List.take_zero, List.nil_append, ← List.map_drop, List.drop_replicate]
theorem zero32 (w : World) : (zeroValue 22).run Tryd.prog w = .ok (.agg (IV .u8 (List.replicate 32 0)).toArray) w := rfl

set_option maxRecDepth 100000 in
set_option maxHeartbeats 800000 in
theorem keyBlock_any (A : Option Addr) (c : Nat) (key : List Int) (w : World) (hs : Sl w A c key) (hb : Bytes key) (hS : STab w) (hK : KTab w) (hlen : key.length ≤ 576460752303423488) :
    Calls Tryd.prog 65 #[.slice A key.length c] w fun r w' => r = .returned (.agg (IV .u8 (kblk key)).toArray) ∧ Below w.heap.size w w' := by
  obtain ⟨OUT, hOUT⟩ : ∃ OUT, OUT = kblk key := ⟨_, rfl⟩
  have hsz : (IV .u8 OUT).toArray.size = 64 := by rw [hOUT]; simp [IV, kblk_length]
  have hinfo : (Tryd.prog.info? 93).map (·.size) = some 64 := by kernel_rfl
  have hall : (IV .u8 OUT).toArray.all (·.oneCell') = true := by simp [IV, Value.oneCell']
  have HSZ := Lib.hid hsz
  have HIN := Lib.hid hinfo
  have HAL := Lib.hid hall
  rw [← hOUT]
  have HOUT := Lib.hid hOUT
  have HS := Lib.hid hs
  have HB := Lib.hid hb
  clear hsz hinfo hall hOUT
  obtain ⟨Z64, hZ64⟩ : ∃ Z, Z = (IV .u8 (List.replicate 64 0)).toArray := ⟨_, rfl⟩
  obtain ⟨Z32, hZ32⟩ : ∃ Z, Z = (IV .u8 (List.replicate 32 0)).toArray := ⟨_, rfl⟩
  have hz64 : ∀ w, (zeroValue 93).run Tryd.prog w = .ok (.agg Z64) w := by rw [hZ64]; exact zero64
  have hz32 : ∀ w, (zeroValue 22).run Tryd.prog w = .ok (.agg Z32) w := by rw [hZ32]; exact zero32
  have HZ64 := Lib.hid hZ64
  have HZ32 := Lib.hid hZ32
  have HZS64 := Lib.hid (show Z64.size = 64 by rw [hZ64]; rfl)
  have HZS32 := Lib.hid (show Z32.size = 32 by rw [hZ32]; rfl)
  clear hZ64 hZ32
  by_cases hl : key.length ≤ 64
  · have hks : kblk key = kpad key := by unfold kblk kshort; rw [if_neg (by omega)]
    have HKS := Lib.hid hks
    clear hks hs
    go_enter Tryd.func65, Tryd.ntmps65
    go_wp2_with (first
      | (refine wpList_copy_splice rfl (.tmp 12) (.tmp 13) 23 23 rfl 5 rfl rfl _ _ 64 64 key.length c rfl rfl (w.heap.size + 1) 0 (IV .u8 (List.replicate 64 0)) 93 (by rw [← HZ64.out]; exact blk_second _ _ _ _) (IV .u8 key) (by rw [IV_length]; exact (Nat.min_eq_left hl).symm) (fun hn => ⟨rfl, (by
          obtain ⟨ad, e, _, hc⟩ := (HS.out.rd.alloc _ |>.alloc _).2 (by simpa [IV] using hn)
          exact ⟨ad, e, hc⟩)⟩) (by rw [IV_length, IV_length]; simpa using hl) (IV_oneCell _ _) (w.heap.size + 1) _ (Below.refl _ _) (Nat.le_refl _) ?_
         intro w3 h3 b3
         have H0 := Lib.hid (show Blk w3 w.heap.size 93 Z64 from ((Blk.new w _ Z64).alloc _).below b3 (by omega))
         have H3 := Lib.hid (show Blk w3 (w.heap.size + 1) 93 (IV .u8 OUT).toArray from (by have h := h3.out; rw [splice_pad key hl, ← HKS.out, ← HOUT.out] at h; exact h))
         have BL := Lib.hid (show Below w.heap.size w w3 from ((((Below.refl _ _).alloc (Nat.le_refl _) _).alloc (by simp) _).trans (b3.mono (by omega))))
         clear h3 b3)
      | refine wpList_load_row rfl 93 (.tmp 3) rfl (w.heap.size + 1) rfl 93 (IV .u8 OUT).toArray (0, 0) _ H3.out Tryd.underlying93 rfl (by rw [HSZ.out]; exact HIN.out) ?_
      | refine wpList_store_row rfl 93 (.tmp 2) (.tmp 15) rfl w.heap.size (IV .u8 OUT).toArray rfl rfl 93 _ H0.out (by rw [HSZ.out]; exact HIN.out) (by rw [HSZ.out, HZS64.out]) HAL.out ?_)
    refine bodyPost_ret (v := .agg (IV .u8 OUT).toArray) (results_cell_row rfl _ _ w.heap.size 93 _ (0, 0) _ rfl (Blk.row H0.out _) Tryd.underlying93 rfl (by rw [HSZ.out]; exact HIN.out)) rfl ⟨rfl, ?_⟩
    exact below_setRow BL.out (Nat.le_refl _) _
  · have hks : kblk key = kpad (sha key) := by unfold kblk kshort; rw [if_pos (by omega)]
    obtain ⟨SH, hSH⟩ : ∃ SH, SH = sha key := ⟨_, rfl⟩
    have hsl : SH.length = 32 := by rw [hSH]; exact sha_length _
    rw [← hSH] at hks
    have C0 : ∀ W N, W.heap.size = N → Below w.heap.size w W → Calls Tryd.prog 70 #[.slice (some ⟨N, 0, none⟩) 1 1] (W.alloc (.cells #[.slice A key.length c] 23)) fun r w' => r = .returned (.agg (IV .u8 SH).toArray) ∧ Below (N + 1) (W.alloc (.cells #[.slice A key.length c] 23)) w' := by
      intro W N hN hW
      subst hN
      have bW := hW.trans (((Below.refl W.heap.size W).alloc (Nat.le_refl _) (.cells #[.slice A key.length c] 23)).mono hW.size)
      have h := Sum_any (some ⟨W.heap.size, 0, none⟩) 1 [(A, c, key)] (W.alloc (.cells #[.slice A key.length c] 23)) (RdBs.new (xs := [(A, c, key)]) 23 (by
        intro x hx
        simp only [List.mem_cons, List.not_mem_nil, or_false] at hx
        subst hx
        exact ⟨hs.below hW, hb⟩)) (by simp) (by decide) (hS.below bW) (hK.below bW) (by rw [flat_one]; exact hlen)
      rw [flat_one, ← hSH] at h
      simpa using h
    have C := Lib.hid C0
    have HKS := Lib.hid hks
    have HSL := Lib.hid hsl
    have hsz2 : (IV .u8 SH).toArray.size = 32 := by simp [IV, hsl]
    have hinfo2 : (Tryd.prog.info? 22).map (·.size) = some 32 := by kernel_rfl
    have hall2 : (IV .u8 SH).toArray.all (·.oneCell') = true := by simp [IV, Value.oneCell']
    have HSZ2 := Lib.hid hsz2
    have HIN2 := Lib.hid hinfo2
    have HAL2 := Lib.hid hall2
    clear C0 hks hs hsl hSH hsz2 hinfo2 hall2 hS hK
    go_enter Tryd.func65, Tryd.ntmps65
    go_wp2_with fail
    refine (C.out ((w.alloc (.cells Z64 93)).alloc (.cells Z64 93)) (w.heap.size + 1 + 1) (by simp) (((Below.refl _ _).alloc (Nat.le_refl _) _).alloc (by simp) _)).mono ?_
    rintro e w2 ⟨rfl, b2⟩
    have H0 := Lib.hid (show Blk w2 w.heap.size 93 Z64 from (((Blk.new w _ Z64).alloc _).alloc _).below b2 (by omega))
    have H1 := Lib.hid (show Blk w2 (w.heap.size + 1) 93 Z64 from ((blk_second w _ _ Z64).alloc _).below b2 (by simp))
    have BL := Lib.hid (show Below w.heap.size w w2 from ((((Below.refl _ _).alloc (Nat.le_refl _) _).alloc (by simp) _).alloc (by simp; omega) _).trans (b2.mono (by omega)))
    have lt2 : w.heap.size + 1 < w2.heap.size := H1.out.lt
    clear b2
    go_wp2_with (first
      | (refine wpList_store_row rfl 22 (.tmp 4) (.tmp 10) rfl w2.heap.size (IV .u8 SH).toArray rfl rfl 22 Z32 (Blk.new w2 _ _) (by rw [HSZ2.out]; exact HIN2.out) (by rw [HZS32.out, HSZ2.out]) HAL2.out ?_
         have H4 := Lib.hid (Blk.row (Blk.new w2 22 Z32) (IV .u8 SH).toArray)
         have B4 := Lib.hid (below_setRow ((Below.refl w2.heap.size w2).alloc (Nat.le_refl _) (.cells Z32 22)) (Nat.le_refl _) (IV .u8 SH).toArray)
         generalize (w2.alloc (.cells Z32 22)).setRow w2.heap.size (IV .u8 SH).toArray = w3 at H4 B4 ⊢)
      | (refine wpList_copy_splice rfl (.tmp 12) (.tmp 13) 23 23 rfl 5 rfl rfl _ _ 64 64 32 32 rfl rfl (w.heap.size + 1) 0 (IV .u8 (List.replicate 64 0)) 93 (by rw [← HZ64.out]; exact H1.out.below B4.out lt2) (IV .u8 SH) (by rw [IV_length, HSL.out]; rfl) (fun hn => ⟨rfl, ⟨_, rfl, (by
           intro j v hj
           rw [Addr.add_mid, Nat.zero_add, H4.out.cell]
           simpa using hj)⟩⟩) (by rw [IV_length, IV_length, HSL.out]; decide) (IV_oneCell _ _) (w.heap.size + 1) w3 (Below.refl _ _) (Nat.le_refl _) ?_
         intro w4 h4 b4
         have H05 := Lib.hid (show Blk w4 w.heap.size 93 Z64 from (H0.out.below B4.out (by omega)).below b4 (by omega))
         have H5 := Lib.hid (show Blk w4 (w.heap.size + 1) 93 (IV .u8 OUT).toArray from (by have h := h4.out; rw [splice_pad SH (by rw [HSL.out]; decide), ← HKS.out, ← HOUT.out] at h; exact h))
         have BL5 := Lib.hid (show Below w.heap.size w w4 from (BL.out.trans (B4.out.mono (by omega))).trans (b4.mono (by omega)))
         clear h4 b4)
      | refine wpList_load_row rfl 93 (.tmp 3) rfl (w.heap.size + 1) rfl 93 (IV .u8 OUT).toArray (0, 0) _ H5.out Tryd.underlying93 rfl (by rw [HSZ.out]; exact HIN.out) ?_
      | refine wpList_store_row rfl 93 (.tmp 2) (.tmp 15) rfl w.heap.size (IV .u8 OUT).toArray rfl rfl 93 _ H05.out (by rw [HSZ.out]; exact HIN.out) (by rw [HSZ.out, HZS64.out]) HAL.out ?_)
    refine bodyPost_ret (v := .agg (IV .u8 OUT).toArray) (results_cell_row rfl _ _ w.heap.size 93 _ (0, 0) _ rfl (Blk.row H05.out _) Tryd.underlying93 rfl (by rw [HSZ.out]; exact HIN.out)) rfl ⟨rfl, ?_⟩
    exact below_setRow BL5.out (Nat.le_refl _) _
end Go.Proofs.YtjibbegdieiknaaDoor

namespace Go.Proofs.YtjibbegdieiknaaDoor
set_option maxRecDepth 100000
open Go.RowKit
set_option linter.unusedVariables false

set_option maxRecDepth 100000 in
set_option maxHeartbeats 1600000 in
theorem Mac_any (A : Option Addr) (c : Nat) (key : List Int) (B : Option Addr) (d : Nat) (xs : List (Option Addr × Nat × List Int)) (w : World) (hs : Sl w A c key) (hb : Bytes key) (hr : RdBs w B xs) (hd : xs.length ≤ d) (hm : d ≤ 9223372036854775807) (hS : STab w) (hK : KTab w) (hkl : key.length ≤ 576460752303423488) (hlen : (flat xs).length ≤ 576460752303423000) :
    Calls Tryd.prog 48 #[.slice A key.length c, .slice B xs.length d] w fun r w' => r = .returned (.agg (IV .u8 (hmac key (flat xs))).toArray) ∧ Below w.heap.size w w' := by
  have hk1 := hK.1
  obtain ⟨OUT, hOUT⟩ : ∃ OUT, OUT = hmac key (flat xs) := ⟨_, rfl⟩
  obtain ⟨KB, hKB⟩ : ∃ KB, KB = kblk key := ⟨_, rfl⟩
  have hkbl : KB.length = 64 := by rw [hKB]; exact kblk_length key
  have hkbb : Bytes KB := by rw [hKB]; exact kblk_bytes hb
  obtain ⟨IN, hIN⟩ : ∃ IN, IN = sha (mskd KB 54 ++ flat xs) := ⟨_, rfl⟩
  have hinl : IN.length = 32 := by rw [hIN]; exact sha_length _
  have hinb : Bytes IN := by rw [hIN]; exact sha_bytes _
  have hout : OUT = sha (mskd KB 92 ++ IN) := by rw [hOUT, hIN, hKB]; rfl
  obtain ⟨Z64, hZ64⟩ : ∃ Z, Z = (IV .u8 (List.replicate 64 0)).toArray := ⟨_, rfl⟩
  obtain ⟨Z32, hZ32⟩ : ∃ Z, Z = (IV .u8 (List.replicate 32 0)).toArray := ⟨_, rfl⟩
  have hz64 : ∀ w, (zeroValue 93).run Tryd.prog w = .ok (.agg Z64) w := by rw [hZ64]; exact zero64
  have hz32 : ∀ w, (zeroValue 22).run Tryd.prog w = .ok (.agg Z32) w := by rw [hZ32]; exact zero32
  have HZS64 := Lib.hid (show Z64.size = 64 by rw [hZ64]; rfl)
  have HZS32 := Lib.hid (show Z32.size = 32 by rw [hZ32]; rfl)
  have I64 := Lib.hid (show (Tryd.prog.info? 93).map (·.size) = some 64 by kernel_rfl)
  have I32 := Lib.hid (show (Tryd.prog.info? 22).map (·.size) = some 32 by kernel_rfl)
  have SKB := Lib.hid (show (IV .u8 KB).toArray.size = 64 by simp [IV, hkbl])
  have AKB := Lib.hid (show (IV .u8 KB).toArray.all (·.oneCell') = true by simp [IV, Value.oneCell'])
  have SIN := Lib.hid (show (IV .u8 IN).toArray.size = 32 by simp [IV, hinl])
  have AIN := Lib.hid (show (IV .u8 IN).toArray.all (·.oneCell') = true by simp [IV, Value.oneCell'])
  have SOUT := Lib.hid (show (IV .u8 OUT).toArray.size = 32 by rw [hOUT]; simp [IV, hmac_length])
  have AOUT := Lib.hid (show (IV .u8 OUT).toArray.all (·.oneCell') = true by simp [IV, Value.oneCell'])
  have C1 := Lib.hid (keyBlock_any A c key (w.alloc (.cells Z32 22)) (hs.alloc _) hb (hS.below ((Below.refl _ _).alloc (Nat.le_refl _) _)) (hK.below ((Below.refl _ _).alloc (Nat.le_refl _) _)) hkl)
  rw [← hKB] at C1
  rw [← hOUT]
  have HKBL := Lib.hid hkbl
  have HKBB := Lib.hid hkbb
  have HIN := Lib.hid hIN
  have HINL := Lib.hid hinl
  have HINB := Lib.hid hinb
  have HOUT := Lib.hid hout
  have HR := Lib.hid hr
  have HS := Lib.hid hS
  have HK := Lib.hid hK
  have lm : ∀ x, (mskd KB x).length = 64 := fun x => by rw [mskd_length, hkbl]
  have HLM := Lib.hid lm
  clear hs hr hS hK hZ64 hZ32 hOUT hKB hkbl hkbb hIN hinl hinb hout lm
  go_enter Tryd.func48, Tryd.ntmps48
  go_wp2_with fail
  refine C1.out.mono ?_
  rintro e w1 ⟨rfl, b1⟩
  have R1 := Lib.hid (show Blk w1 w.heap.size 22 Z32 from (Blk.new w _ Z32).below b1 (by simp))
  have BL1 := Lib.hid (show Below w.heap.size w w1 from ((Below.refl _ _).alloc (Nat.le_refl _) _).trans (b1.mono (by simp)))
  have lt1 : w.heap.size < w1.heap.size := R1.out.lt
  clear b1 C1
  go_wp2_with (refine wpList_store_row rfl 93 (.tmp 5) (.tmp 11) rfl w1.heap.size (IV .u8 KB).toArray rfl rfl 93 Z64 (Blk.new w1 _ _) (by rw [SKB.out]; exact I64.out) (by rw [SKB.out, HZS64.out]) AKB.out ?_
               have K2 := Lib.hid (Blk.row (Blk.new w1 93 Z64) (IV .u8 KB).toArray)
               have B2 := Lib.hid (below_setRow ((Below.refl w1.heap.size w1).alloc (Nat.le_refl _) (.cells Z64 93)) (Nat.le_refl _) (IV .u8 KB).toArray)
               generalize (w1.alloc (.cells Z64 93)).setRow w1.heap.size (IV .u8 KB).toArray = w2 at K2 B2 ⊢)
  have R2 := Lib.hid (R1.out.below B2.out lt1)
  have BL2 := Lib.hid (BL1.out.trans (B2.out.mono (by omega)))
  have lt2 : w1.heap.size < w2.heap.size := K2.out.lt
  clear R1 B2 BL1
  refine (newDigest_any w2 (HS.out.below BL2.out)).mono ?_
  rintro e w3 ⟨g, rfl, hg, hs3, b3⟩
  have R3 := Lib.hid (R2.out.below b3 (by omega))
  have K3 := Lib.hid (K2.out.below b3 (by omega))
  have BL3 := Lib.hid (BL2.out.trans (b3.mono (by omega)))
  have lt3 : w2.heap.size ≤ w3.heap.size := b3.size
  have H3 := Lib.hid hs3
  have lg3 : g < w3.heap.size := by obtain ⟨_, _, _, hD, _⟩ := hs3; exact hD.1.lt
  have C2 := Lib.hid (masked_any KB 54 w3 HKBL.out HKBB.out (by decide))
  clear b3 hs3 R2 K2 BL2
  go_wp2_with (first
    | refine wpList_load_row rfl 93 (.tmp 5) rfl w1.heap.size rfl 93 (IV .u8 KB).toArray (0, 0) _ K3.out Tryd.underlying93 rfl (by rw [SKB.out]; exact I64.out) ?_)
  refine C2.out.mono ?_
  rintro e w4 ⟨g4, rfl, hg4, m4, b4⟩
  have C3 := Lib.hid (write_any g st0 [] (mskd KB 54) (some ⟨g4, 0, none⟩) 64 w4 (H3.out.below b4 lg3) m4.rd (mskd_bytes HKBB.out (by decide)) (by rintro - a ⟨⟩; show g4 ≠ g; omega) (by rw [HLM.out]; omega) (HK.out.below (BL3.out.trans (b4.mono (by omega)))) (by omega) (by rw [HLM.out]; decide))
  rw [HLM.out] at C3
  have R4 := Lib.hid (R3.out.below b4 (by omega))
  have K4 := Lib.hid (K3.out.below b4 (by omega))
  have BL4 := Lib.hid (BL3.out.trans (b4.mono (by omega)))
  clear C2 m4 b4 R3 K3 BL3 H3
  go_wp2_with fail
  refine C3.out.mono ?_
  rintro e w5 ⟨rfl, hs5, o5⟩
  rw [List.nil_append] at hs5
  have H5 := Lib.hid hs5
  have R5 := Lib.hid (R4.out.grown o5 (by simp; omega))
  have K5 := Lib.hid (K4.out.grown o5 (by simp; omega))
  have BL5 := Lib.hid (grown_below BL4.out o5 BL4.out.size (by omega))
  clear hs5 o5 R4 K4 BL4 C3
  go_wp2_with fail
  go_loopw [19] (fun i wr => ∃ k : Nat, k ≤ xs.length ∧ i = .int .i64 k ∧ Hs wr g st0 (mskd KB 54 ++ flat (xs.take k)) (mskd KB 54 ++ flat (xs.take k)).length ∧ Blk wr w.heap.size 22 Z32 ∧ Blk wr w1.heap.size 93 (IV .u8 KB).toArray ∧ Below w.heap.size w wr) (fun i _ => xs.length - (intOf i).toNat)
  case atStart => exact ⟨0, by omega, rfl, by simpa [flat] using H5.out, R5.out, K5.out, BL5.out⟩
  case round =>
    obtain ⟨k, hk, rfl, hs, hR, hKB, bel⟩ := hrel
    by_cases hkl2 : k < xs.length
    · obtain ⟨b, off, rfl, hbw, hcell⟩ := (HR.out.below bel).at_ hkl2
      obtain ⟨hsx, hbx⟩ := (HR.out.below bel).each xs[k] (List.getElem_mem hkl2)
      have hlow := HR.out.lower hkl2
      have hfl := flat_at_le hkl2
      have htk := flat_snoc hkl2
      obtain ⟨x, hx⟩ : ∃ x, x = xs[k] := ⟨_, rfl⟩
      rw [← hx] at hcell hsx hbx hlow hfl htk
      clear hx
      obtain ⟨xa, xc, xl⟩ := x
      have hcell' : wr.cell? ⟨b, off + k, none⟩ = some (.slice xa xl.length xc) := hcell
      have HTK := Lib.hid htk
      have C := Lib.hid (write_any g st0 _ xl xa xc wr hs hsx.rd hbx (fun h a ha => by have := hlow h a ha; omega) hsx.le (HK.out.below bel) (by omega) (by rw [List.length_append, HLM.out]; simp only at hfl; omega))
      have RR := Lib.hid hR
      have KK := Lib.hid hKB
      have BL := Lib.hid bel
      clear hcell hs htk hR hKB bel hlow hsx hbx hfl
      go_wp2_with fail
      refine C.out.mono ?_
      rintro e w6 ⟨rfl, hs6, o6⟩
      have HS6 := Lib.hid hs6
      have O6 := Lib.hid o6
      clear hs6 o6
      go_wp2_with fail
      go_roundw
      case rel =>
        refine ⟨k + 1, by omega, by go_num, ?_, RR.out.grown O6.out (by simp; omega), KK.out.grown O6.out (by simp; omega), grown_below BL.out O6.out BL.out.size (by omega)⟩
        rw [HTK.out, ← List.append_assoc]
        exact HS6.out
      case measure => simp [intOf]; omega
    · obtain rfl : k = xs.length := by omega
      rw [List.take_of_length_le (Nat.le_refl _)] at hs
      have C := sum_any g st0 _ wr hs (HK.out.below bel) (by omega) (by rw [List.length_append, HLM.out]; omega)
      have C' : Calls Tryd.prog 69 #[.pointer (some ⟨g, 0, none⟩)] wr fun r w' => r = .returned (.agg (IV .u8 IN).toArray) ∧ wr.grownBy w' (some g) := by rw [HIN.out]; exact C
      have C2 := Lib.hid C'
      have RR := Lib.hid hR
      have KK := Lib.hid hKB
      have BL := Lib.hid bel
      clear C C' hs hR hKB bel
      go_wp2_with fail
      refine C2.out.mono ?_
      rintro e w7 ⟨rfl, o7⟩
      have R7 := Lib.hid (RR.out.grown o7 (by simp; omega))
      have K7 := Lib.hid (KK.out.grown o7 (by simp; omega))
      have BL7 := Lib.hid (grown_below BL.out o7 BL.out.size (by omega))
      have lt7 : w1.heap.size < w7.heap.size := K7.out.lt
      clear o7 RR KK BL C2
      go_wp2_with (refine wpList_store_row rfl 22 (.tmp 9) (.tmp 28) rfl w7.heap.size (IV .u8 IN).toArray rfl rfl 22 Z32 (Blk.new w7 _ _) (by rw [SIN.out]; exact I32.out) (by rw [SIN.out, HZS32.out]) AIN.out ?_
                   have G8 := Lib.hid (Blk.row (Blk.new w7 22 Z32) (IV .u8 IN).toArray)
                   have B8 := Lib.hid (below_setRow ((Below.refl w7.heap.size w7).alloc (Nat.le_refl _) (.cells Z32 22)) (Nat.le_refl _) (IV .u8 IN).toArray)
                   generalize (w7.alloc (.cells Z32 22)).setRow w7.heap.size (IV .u8 IN).toArray = w8 at G8 B8 ⊢)
      have R8 := Lib.hid (R7.out.below B8.out (by omega))
      have K8 := Lib.hid (K7.out.below B8.out lt7)
      have BL8 := Lib.hid (BL7.out.trans (B8.out.mono (by omega)))
      have lt8 : w7.heap.size < w8.heap.size := G8.out.lt
      clear R7 K7 BL7 B8
      have K9 := Lib.hid K8.out.drew
      have R9 := Lib.hid R8.out.drew
      have G9 := Lib.hid G8.out.drew
      have BL9 := Lib.hid (show Below w.heap.size w w8.drew from ⟨BL8.out.os, BL8.out.tape, BL8.out.output, BL8.out.size, BL8.out.block⟩)
      have lt9 : w8.drew.heap.size = w8.heap.size := rfl
      have KL := Lib.hid (show w1.heap.size < w8.drew.heap.size by omega)
      have RL := Lib.hid (show w.heap.size < w8.drew.heap.size by omega)
      have ZL := Lib.hid (show 32 ≤ Z32.size by rw [HZS32.out]; omega)
      have keepA : ∀ w9, Below w8.drew.heap.size w8.drew w9 → w9.rangeAt w1.heap.size 0 (IV .u8 KB) ∧ w9.there w.heap.size 0 32 := fun w9 b9 => ⟨(K9.out.below b9 KL.out).range, (R9.out.below b9 RL.out).there_ ZL.out⟩
      have KA := Lib.hid keepA
      clear keepA
      have hne1 : w1.heap.size ≠ w.heap.size := by omega
      have CS0 : ∀ (W : World) (N g9 : Nat), W.heap.size = N → Blk W g9 5 (IV .u8 (mskd KB 92)).toArray → Blk W w7.heap.size 22 (IV .u8 IN).toArray → Below w.heap.size w W → Calls Tryd.prog 70 #[.slice (some ⟨N, 0, none⟩) 2 2] (W.alloc (.cells #[.slice (some ⟨g9, 0, none⟩) 64 64, .slice (some ⟨w7.heap.size, 0, none⟩) 32 32] 23)) fun r w' => r = .returned (.agg (IV .u8 OUT).toArray) ∧ Below (N + 1) (W.alloc (.cells #[.slice (some ⟨g9, 0, none⟩) 64 64, .slice (some ⟨w7.heap.size, 0, none⟩) 32 32] 23)) w' := by
        intro W N g9 hN h1 h2 hW
        subst hN
        have bW := hW.trans (((Below.refl W.heap.size W).alloc (Nat.le_refl _) (.cells #[.slice (some ⟨g9, 0, none⟩) 64 64, .slice (some ⟨w7.heap.size, 0, none⟩) 32 32] 23)).mono hW.size)
        have hb2 : BV (some ⟨g9, 0, none⟩, 64, mskd KB 92) = .slice (some ⟨g9, 0, none⟩) 64 64 := by unfold BV; rw [HLM.out]
        have hb3 : BV (some ⟨w7.heap.size, 0, none⟩, 32, IN) = .slice (some ⟨w7.heap.size, 0, none⟩) 32 32 := by unfold BV; rw [HINL.out]
        have hn := RdBs.new (w := W) (xs := [(some ⟨g9, 0, none⟩, 64, mskd KB 92), (some ⟨w7.heap.size, 0, none⟩, 32, IN)]) 23 (by
          intro x hx
          simp only [List.mem_cons, List.not_mem_nil, or_false] at hx
          rcases hx with rfl | rfl
          · exact ⟨h1.sl (c := 64) (HLM.out _) (Nat.le_refl _) (by decide), mskd_bytes HKBB.out (by decide)⟩
          · exact ⟨h2.sl (c := 32) HINL.out (Nat.le_refl _) (by decide), HINB.out⟩)
        simp only [List.map_cons, List.map_nil, hb2, hb3] at hn
        have h := Sum_any (some ⟨W.heap.size, 0, none⟩) 2 _ _ hn (by simp) (by decide) (HS.out.below bW) (HK.out.below bW) (by rw [flat_two, List.length_append, HLM.out, HINL.out]; decide)
        rw [flat_two, ← HOUT.out] at h
        simpa using h
      have CS := Lib.hid CS0
      have hu64 := Tryd.underlying93
      have hu32 := Tryd.underlying22
      have hi64 : (Tryd.prog.info? 93).map (·.size) = some (IV .u8 KB).length := by rw [I64.out, IV_length, HKBL.out]
      have hi32 : (Tryd.prog.info? 22).map (·.size) = some (IV .u8 OUT).length := by rw [I32.out, ← SOUT.out]; simp
      have ho64 : ∀ v ∈ IV .u8 KB, v.oneCell' = true := IV_oneCell _ _
      have ho32 : ∀ v ∈ IV .u8 OUT, v.oneCell' = true := IV_oneCell _ _
      have hl64 : (IV .u8 KB).length = 64 := by rw [IV_length, HKBL.out]
      have hl32 : (IV .u8 OUT).length = 32 := by rw [← SOUT.out]; simp
      have T8 := Lib.hid (R8.out.there_ (n := 32) (by rw [HZS32.out]; omega))
      have S1 := K8.out.range
      have S2 := T8.out
      clear CS0
      go_region_held3 (fun w' => w'.rangeAt w1.heap.size 0 (IV .u8 KB) ∧ w'.there w.heap.size 0 32) (first
        | (go_keep_ranges; done)
        | exact KA.out _ b9
        | exact KA.out _ (b9.alloc h9 _)
        | exact KA.out _ b11
        | exact ⟨World.rangeAt_setCells_apart (KA.out _ b11).1 _ _ _ (.inl hne1), World.there_setCells (KA.out _ b11).2 _ _ _⟩) (first
        | (go_at_call 68; refine (masked_any KB 92 _ HKBL.out HKBB.out (by decide)).mono ?_; rintro e w9 ⟨g9, rfl, hg9, m9, b9⟩; have h9 : w8.drew.heap.size ≤ w9.heap.size := b9.size)
        | (go_at_call 70; refine (CS.out w9 _ g9 rfl m9 (G9.out.below b9 (by omega)) (BL9.out.trans (b9.mono (by omega)))).mono ?_; rintro e w10 ⟨rfl, b10⟩; have b11 : Below w8.drew.heap.size w8.drew w10 := (b9.alloc h9 _).trans (b10.mono (Nat.le_succ_of_le h9))))
      all_goals
        have R11 := R9.out.below b11 RL.out
        have R12 := Lib.hid (R11.setAll (vs := IV .u8 OUT) (by rw [hl32, HZS32.out]))
        have BL12 := Lib.hid (below_setCells (BL9.out.trans (b11.mono (by omega))) (Nat.le_refl _) (Nat.le_of_lt R11.lt) 0 (IV .u8 OUT))
        clear R11 b11 b10 b9 m9 hi64 hi32 hl64 hl32 ho64 ho32 S1 S2
        go_wp2_with fail
        refine bodyPost_ret (v := .agg (IV .u8 OUT).toArray) (results_cell_row rfl _ _ w.heap.size 22 _ (0, 0) _ rfl R12.out Tryd.underlying22 rfl (by rw [SOUT.out]; exact I32.out)) rfl ⟨rfl, BL12.out⟩
end Go.Proofs.YtjibbegdieiknaaDoor

namespace Go.Proofs.YtjibbegdieiknaaDoor
set_option maxRecDepth 100000
open Go.RowKit
set_option linter.unusedVariables false

def lenE (n : Int) : Int := if n < 0 then 1 else if 8160 < n then 3 else 0
theorem lengthError_any (n : Int) (w : World) : Calls Tryd.prog 49 #[.int .i64 n] w fun r w' => r = .returned (.int .i64 (lenE n)) ∧ w = w' := by
  unfold lenE
  by_cases h1 : n < 0
  · rw [if_pos h1]
    go_enter Tryd.func49, Tryd.ntmps49
    go_wp2
    go_ret
    exact ⟨rfl, rfl⟩
  · rw [if_neg h1]
    by_cases h2 : 8160 < n
    · rw [if_pos h2]
      go_enter Tryd.func49, Tryd.ntmps49
      go_wp2
      go_ret
      exact ⟨rfl, rfl⟩
    · rw [if_neg h2]
      go_enter Tryd.func49, Tryd.ntmps49
      go_wp2
      go_ret
      exact ⟨rfl, rfl⟩
theorem flat_three (A B C : Option Addr) (c d e : Nat) (l m n : List Int) : flat [(A, c, l), (B, d, m), (C, e, n)] = l ++ m ++ n := by simp [flat]
theorem Own.alloc {w : World} {base c : Nat} {A : Option Addr} {l : List Int} (h : Own w base A c l) (o : Obj) : Own (w.alloc o) base A c l := h.below ((Below.refl _ _).alloc (Nat.le_refl _) _)
/-- A row that was made, empty, with room. -/
theorem Own.room {w : World} {g base n : Nat} (h : Blk w g 5 (IV .u8 (List.replicate n 0)).toArray) (hb : base ≤ g) (hm : n ≤ maxLen) : Own w base (some ⟨g, 0, none⟩) n [] :=
  ⟨by simp [U8], .inr ⟨g, n, _, rfl, hb, h, by simp, hm, by simp [IV], by simp [U8]⟩⟩

set_option maxHeartbeats 400000 in
theorem Expand_err (A B : Option Addr) (ln lm c d : Nat) (n e : Int) (w : World) (he : lenE n = e) (h0 : e ≠ 0) :
    Calls Tryd.prog 50 #[.slice A ln c, .slice B lm d, .int .i64 n] w fun r w' => r = .returned (.tuple #[.slice none 0 0, .int .i64 e]) ∧ w = w' := by
  have HE := Lib.hid he
  clear he
  go_enter Tryd.func50, Tryd.ntmps50
  go_wp2_with fail
  refine (lengthError_any n w).mono ?_
  rintro r w1 ⟨rfl, rfl⟩
  rw [HE.out]
  go_wp2_with fail
  go_ret2
  exact ⟨rfl, rfl⟩

set_option maxRecDepth 100000 in
set_option maxHeartbeats 1600000 in
theorem Expand_any (A : Option Addr) (c : Nat) (key : List Int) (B : Option Addr) (d : Nat) (info : List Int) (n : Nat) (w : World) (hs : Sl w A c key) (hb : Bytes key) (hi : Sl w B d info) (hib : Bytes info) (hn : n ≤ 8160) (hS : STab w) (hK : KTab w) (hkl : key.length ≤ 576460752303423488) (hil : info.length ≤ 288230376151711744) :
    Calls Tryd.prog 50 #[.slice A key.length c, .slice B info.length d, .int .i64 n] w fun r w' => ∃ A' c', r = .returned (.tuple #[.slice A' n c', .int .i64 0]) ∧ Own w' w.heap.size A' c' (hkdf key info n) ∧ Below w.heap.size w w' := by
  have he : lenE n = 0 := by unfold lenE; rw [if_neg (by omega), if_neg (by omega)]
  have hmk : ∀ W : World, (Instr.makeSlice 23 (.int .i64 0) (.int .i64 n)).run Tryd.prog W = .ok (.slice (some ⟨W.heap.size, 0, none⟩) 0 n) (W.alloc (.cells (IV .u8 (List.replicate n 0)).toArray 5)) := fun W => by
    obtain ⟨i0, hi0, hz0, hz1, hz2⟩ := info_parts info_u8
    have h := run_make (P := Tryd.prog) W 23 5 i0 (.int .u8 0) Tryd.underlying23 hi0 hz0 .i64 .i64 0 n (by omega) (by omega) (by rw [hz2]; omega) (by omega)
    rw [Int.toNat_natCast, hz1, Nat.mul_one] at h
    rw [← made_u8]
    exact h
  have HE := Lib.hid he
  have HS := Lib.hid hs
  have HI := Lib.hid hi
  have HST := Lib.hid hS
  have HK := Lib.hid hK
  have I32 := Lib.hid (show (Tryd.prog.info? 22).map (·.size) = some 32 by kernel_rfl)
  obtain ⟨Z32, hZ32⟩ : ∃ Z, Z = (IV .u8 (List.replicate 32 0)).toArray := ⟨_, rfl⟩
  have hz32 : ∀ w, (zeroValue 22).run Tryd.prog w = .ok (.agg Z32) w := by rw [hZ32]; exact zero32
  have HZS32 := Lib.hid (show Z32.size = 32 by rw [hZ32]; rfl)
  clear he hs hi hS hK hZ32
  go_enter Tryd.func50, Tryd.ntmps50
  go_wp2_with fail
  refine (lengthError_any n w).mono ?_
  rintro r w1 ⟨rfl, rfl⟩
  rw [HE.out]
  go_wp2_with fail
  have o1 : Own (w.alloc (.cells (IV .u8 (List.replicate n 0)).toArray 5)) w.heap.size (some ⟨w.heap.size, 0, none⟩) n [] := Own.room (Blk.new _ _ _) (Nat.le_refl _) (by unfold maxLen; omega)
  have b1 : Below w.heap.size w (w.alloc (.cells (IV .u8 (List.replicate n 0)).toArray 5)) := (Below.refl _ _).alloc (Nat.le_refl _) _
  generalize w.alloc (.cells (IV .u8 (List.replicate n 0)).toArray 5) = W1 at o1 b1 ⊢
  clear hmk
  go_loopw [9, 10, 11] (fun o l i wr => ∃ (k : Nat) (A1 : Option Addr) (c1 : Nat) (A2 : Option Addr) (c2 : Nat) (out : List Int), 32 * k ≤ n + 31 ∧ i = .int .u8 (((k + 1 : Nat) : Int) % 256) ∧ out = (hk key info k).take n ∧ o = .slice A1 out.length c1 ∧ Own wr w.heap.size A1 c1 out ∧ l = .slice A2 (tn key info k).length c2 ∧ Sl wr A2 c2 (tn key info k) ∧ Below w.heap.size w wr) (fun o _ _ _ => n - (match o with | .slice _ l _ => l | _ => 0))
  case atStart => exact ⟨0, _, n, none, 0, [], by omega, rfl, by simp [hk], rfl, o1, rfl, Sl.none_ _, b1⟩
  case round =>
    obtain ⟨k, A1, c1, A2, c2, out, hk1, rfl, hout, rfl, hown, rfl, hsl, bel⟩ := hrel
    have hol : out.length = min n (32 * k) := by rw [hout, List.length_take, hk_length]
    by_cases hlt : out.length < n
    · have hk32 : out.length = 32 * k := by omega
      have hk7 : k < 255 := by omega
      have HK32 := Lib.hid hk32
      obtain ⟨T0, hT0⟩ : ∃ T0, T0 = tn key info k := ⟨_, rfl⟩
      obtain ⟨T1, hT1⟩ : ∃ T1, T1 = tn key info (k + 1) := ⟨_, rfl⟩
      obtain ⟨iv, hiv⟩ : ∃ iv : Int, iv = (k : Int) + 1 := ⟨_, rfl⟩
      have hiv' : ((k + 1 : Nat) : Int) % 256 = iv := by omega
      have hiv1 : 1 ≤ iv := by omega
      have hiv2 : iv ≤ 255 := by omega
      have ht1 : T1 = hmac key (T0 ++ info ++ [iv]) := by rw [hT1, hT0, hiv]; rfl
      have ht1l : T1.length = 32 := by rw [hT1]; exact tn_length _ _ _
      have ht1b : Bytes T1 := by rw [hT1]; exact tn_bytes _ _ _
      have ht0l : T0.length ≤ 32 := by rw [hT0]; exact tn_le _ _ _
      have ht0b : Bytes T0 := by rw [hT0]; exact tn_bytes _ _ _
      rw [hiv', ← hT0]
      rw [← hT0] at hsl
      have CM : Calls Tryd.prog 48 #[.slice A key.length c, .slice (some ⟨wr.heap.size + 1, 0, none⟩) 3 3] ((wr.alloc (.cells #[.int .u8 iv] 5)).alloc (.cells #[.slice A2 T0.length c2, .slice B info.length d, .slice (some ⟨wr.heap.size, 0, none⟩) 1 1] 23)) fun r w' => r = .returned (.agg (IV .u8 T1).toArray) ∧ Below (wr.heap.size + 2) ((wr.alloc (.cells #[.int .u8 iv] 5)).alloc (.cells #[.slice A2 T0.length c2, .slice B info.length d, .slice (some ⟨wr.heap.size, 0, none⟩) 1 1] 23)) w' := by
        have b1 : Below wr.heap.size wr (wr.alloc (.cells #[.int .u8 iv] 5)) := (Below.refl _ _).alloc (Nat.le_refl _) _
        have b2 : Below w.heap.size w ((wr.alloc (.cells #[.int .u8 iv] 5)).alloc (.cells #[.slice A2 T0.length c2, .slice B info.length d, .slice (some ⟨wr.heap.size, 0, none⟩) 1 1] 23)) := (bel.alloc bel.size _).alloc (by have := bel.size; simp; omega) _
        have k1 : Blk (wr.alloc (.cells #[.int .u8 iv] 5)) wr.heap.size 5 (IV .u8 [iv]).toArray := Blk.new wr _ _
        have hn := RdBs.new (w := wr.alloc (.cells #[.int .u8 iv] 5)) (xs := [(A2, c2, T0), (B, d, info), (some ⟨wr.heap.size, 0, none⟩, 1, [iv])]) 23 (by
          intro x hx
          simp only [List.mem_cons, List.not_mem_nil, or_false] at hx
          rcases hx with rfl | rfl | rfl
          · exact ⟨hsl.below b1, ht0b⟩
          · exact ⟨HI.out.below (bel.trans (b1.mono bel.size)), hib⟩
          · exact ⟨k1.sl (n := 1) (c := 1) rfl (Nat.le_refl _) (by decide), by intro x hx; simp only [List.mem_cons, List.not_mem_nil, or_false] at hx; omega⟩)
        have hsz : (wr.alloc (.cells #[.int .u8 iv] 5)).heap.size = wr.heap.size + 1 := by simp
        rw [hsz] at hn
        have h := Mac_any A c key (some ⟨wr.heap.size + 1, 0, none⟩) 3 _ _ (HS.out.below b2) hb hn (by simp) (by decide) (HST.out.below b2) (HK.out.below b2) hkl (by rw [flat_three, List.length_append, List.length_append, List.length_singleton]; omega)
        rw [flat_three, ← ht1] at h
        exact h.mono fun r w' ⟨e, hb⟩ => ⟨e, hb.mono (by simp)⟩
      have C := Lib.hid CM
      have HOWN := Lib.hid hown
      have HSL := Lib.hid hsl
      have HT0 := Lib.hid hT0
      have HT1 := Lib.hid hT1
      have HIV := Lib.hid hiv
      have HT1L := Lib.hid ht1l
      have HT1B := Lib.hid ht1b
      have HOUT := Lib.hid hout
      have BEL := Lib.hid bel
      have A1' := Lib.hid (show (IV .u8 T1).toArray.all (·.oneCell') = true by simp [IV, Value.oneCell'])
      have S1' := Lib.hid (show (IV .u8 T1).toArray.size = 32 by simp [IV, ht1l])
      clear CM hown hsl hT0 hT1 hiv hiv' ht1 ht1l ht1b hout bel ht0b hol hk32
      have hltz : (out.length : Int) < n := by omega
      go_wp2_with fail
      refine C.out.mono ?_
      rintro e w3 ⟨rfl, b3⟩
      have O3 := Lib.hid (((HOWN.out.alloc _).alloc _).below (b3.mono (by simp)))
      have BL3 := Lib.hid (show Below wr.heap.size wr w3 from (((Below.refl _ _).alloc (Nat.le_refl _) _).alloc (by simp) _).trans (b3.mono (by omega)))
      have sz3 : wr.heap.size ≤ w3.heap.size := BL3.out.size
      clear b3 HOWN C
      have hstep : (hk key info (k + 1)).take n = out ++ T1.take (n - out.length) := by
        rw [hk, List.take_append, ← HT1.out, ← HOUT.out, HK32.out, hk_length]
      obtain ⟨m, hm⟩ : ∃ m, m = min 32 (n - out.length) := ⟨_, rfl⟩
      have htm : T1.take (n - out.length) = T1.take m := by
        rcases Nat.le_total 32 (n - out.length) with h | h
        · rw [hm, Nat.min_eq_left h, List.take_of_length_le (by rw [HT1L.out]; exact h), List.take_of_length_le (by rw [HT1L.out]; exact Nat.le_refl _)]
        · rw [hm, Nat.min_eq_right h]
      have htl : (T1.take m).length = m := by rw [List.length_take, HT1L.out, hm]; omega
      rw [htm] at hstep
      obtain ⟨NW, hNW⟩ : ∃ NW, NW = T1.take m := ⟨_, rfl⟩
      rw [← hNW] at hstep htl
      have HSTEP := Lib.hid hstep
      have HTL := Lib.hid htl
      have HM := Lib.hid hm
      have HNW := Lib.hid hNW
      have hm32 : m ≤ 32 := by omega
      have hm0 : 0 < m := by omega
      have nwl : NW.length = m := htl
      have NWL := Lib.hid (show out.length + NW.length ≤ 70368744177664 by rw [nwl]; omega)
      have NRD := Lib.hid (show ∀ w4 : World, Blk w4 w3.heap.size 22 (IV .u8 T1).toArray → Rd w4 (some ⟨w3.heap.size, 0, none⟩) NW by
        intro w4 h4
        rw [hNW]
        exact h4.rd.upto (by rw [HT1L.out]; omega))
      have FIN := Lib.hid (show ∀ (w4 w5 : World) (A5 : Option Addr) (c5 : Nat), Below w3.heap.size w3 w4 → Blk w4 w3.heap.size 22 (IV .u8 T1).toArray → Own w5 w.heap.size A5 c5 (out ++ NW) → w4.grownBy w5 (Value.slice A1 out.length c1).ownBlock → Below w.heap.size w4 w5 → Own w4 w.heap.size A1 c1 out →
          Sl w5 (some ⟨w3.heap.size, 0, none⟩) 32 T1 ∧ Below w.heap.size w w5 by
        intro w4 w5 A5 c5 h4 hb h5 g5 b5 o4
        refine ⟨?_, ((BEL.out.trans (BL3.out.mono BEL.out.size)).trans (h4.mono (by have := BEL.out.size; omega))).trans b5⟩
        have hne : some w3.heap.size ≠ (Value.slice A1 out.length c1).ownBlock := fun e => OwnV.other (t := 22) o4 (by decide) _ _ hb e.symm
        exact (hb.grown g5 hne).sl HT1L.out (Nat.le_refl _) (by decide))
      clear hstep htm htl hNW nwl
      have RELZ := Lib.hid (show ∀ (w5 : World) (A5 : Option Addr) (c5 : Nat), Own w5 w.heap.size A5 c5 (out ++ NW) → Sl w5 (some ⟨w3.heap.size, 0, none⟩) 32 T1 → Below w.heap.size w w5 →
          (∃ (k' : Nat) (A1 : Option Addr) (c1 : Nat) (A2 : Option Addr) (c2 : Nat) (out' : List Int), 32 * k' ≤ n + 31 ∧ Value.int .u8 ((iv + 1) % 256) = .int .u8 (((k' + 1 : Nat) : Int) % 256) ∧ out' = (hk key info k').take n ∧ Value.slice A5 (out.length + NW.length) c5 = .slice A1 out'.length c1 ∧ Own w5 w.heap.size A1 c1 out' ∧ Value.slice (some ⟨w3.heap.size, 0, none⟩) 32 32 = .slice A2 (tn key info k').length c2 ∧ Sl w5 A2 c2 (tn key info k') ∧ Below w.heap.size w w5) by
        intro w5 A5 c5 h1 h2 h3
        refine ⟨k + 1, A5, c5, some ⟨w3.heap.size, 0, none⟩, 32, out ++ NW, ?_, ?_, HSTEP.out.symm, by rw [List.length_append], h1, by rw [← HT1.out, HT1L.out], by rw [← HT1.out]; exact h2, h3⟩
        · have := HK32.out; omega
        · rw [HIV.out]; congr 1)
      by_cases hbig : 32 ≤ n - out.length
      · have hbz : (32 : Int) ≤ (n : Int) - out.length := by omega
        obtain rfl : m = 32 := by omega
        clear hm hm32 hm0
        go_wp2_with (first
          | (refine wpList_store_row rfl 22 (.tmp 12) (.tmp 32) rfl w3.heap.size (IV .u8 T1).toArray rfl rfl 22 Z32 (Blk.new w3 _ _) (by rw [S1'.out]; exact I32.out) (by rw [S1'.out, HZS32.out]) A1'.out ?_
             have G4 := Lib.hid (Blk.row (Blk.new w3 22 Z32) (IV .u8 T1).toArray)
             have B4 := Lib.hid (below_setRow ((Below.refl w3.heap.size w3).alloc (Nat.le_refl _) (.cells Z32 22)) (Nat.le_refl _) (IV .u8 T1).toArray)
             generalize (w3.alloc (.cells Z32 22)).setRow w3.heap.size (IV .u8 T1).toArray = w4 at G4 B4 ⊢)
          | (refine wpList_app rfl (.tmp 34) (.tmp 41) rfl w.heap.size (l := out) (news := NW) (d := 32) rfl (by rw [HTL.out]; rfl) (O3.out.below B4.out) (NRD.out _ G4.out) NWL.out (Nat.le_trans BEL.out.size (Nat.le_trans sz3 B4.out.size)) ?_
             intro A5 c5 w5 o5 g5 b5
             have FF := Lib.hid (FIN.out w4 w5 A5 c5 B4.out G4.out o5 g5 b5 (O3.out.below B4.out))
             clear g5 b5))
        refine ⟨RELZ.out w5 A5 c5 o5 FF.out.1 FF.out.2, ?_⟩
        show n - (out.length + NW.length) < n - out.length
        have := HTL.out
        omega
      · have hbz : ¬ ((32 : Int) ≤ (n : Int) - out.length) := by omega
        have hbz2 : (n : Int) - out.length < 32 := by omega
        have hbz3 : (n : Int) - out.length = (m : Int) := by omega
        have hbz4 : (m : Int) < 32 := by omega
        clear hm hbig
        go_wp2_with (first
          | (refine wpList_store_row rfl 22 (.tmp 12) (.tmp 32) rfl w3.heap.size (IV .u8 T1).toArray rfl rfl 22 Z32 (Blk.new w3 _ _) (by rw [S1'.out]; exact I32.out) (by rw [S1'.out, HZS32.out]) A1'.out ?_
             have G4 := Lib.hid (Blk.row (Blk.new w3 22 Z32) (IV .u8 T1).toArray)
             have B4 := Lib.hid (below_setRow ((Below.refl w3.heap.size w3).alloc (Nat.le_refl _) (.cells Z32 22)) (Nat.le_refl _) (IV .u8 T1).toArray)
             generalize (w3.alloc (.cells Z32 22)).setRow w3.heap.size (IV .u8 T1).toArray = w4 at G4 B4 ⊢)
          | (refine wpList_app rfl (.tmp 34) (.tmp 41) rfl w.heap.size (l := out) (news := NW) (d := 32) rfl (by rw [HTL.out]; rfl) (O3.out.below B4.out) (NRD.out _ G4.out) NWL.out (Nat.le_trans BEL.out.size (Nat.le_trans sz3 B4.out.size)) ?_
             intro A5 c5 w5 o5 g5 b5
             have FF := Lib.hid (FIN.out w4 w5 A5 c5 B4.out G4.out o5 g5 b5 (O3.out.below B4.out))
             clear g5 b5))
        refine ⟨RELZ.out w5 A5 c5 o5 FF.out.1 FF.out.2, ?_⟩
        show n - (out.length + NW.length) < n - out.length
        have := HTL.out
        omega
    · have he : out.length = n := by omega
      have hfin : out = hkdf key info n := by
        rw [hout]
        exact hkdf_at key info n k (by omega)
      have HO := Lib.hid hown
      have HB := Lib.hid bel
      have HF := Lib.hid hfin
      have HEE := Lib.hid he
      have hge : ¬ ((out.length : Int) < n) := by omega
      clear hown bel hfin hout hsl hol he
      go_wp2_with fail
      go_ret2
      exact ⟨A1, c1, by simp [HEE.out], by rw [← HF.out]; exact HO.out, HB.out⟩
end Go.Proofs.YtjibbegdieiknaaDoor
