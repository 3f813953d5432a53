import Derived.Test.YtpedajjmbdjfiaaSaltP
namespace Go.Proofs.Ytpedajjmbdjfiaa
open Go.RowKit
set_option linter.unusedVariables false

theorem arr32_len : Try.prog.arrayLen 22 = 32 := by kernel_rfl
theorem arr32_elem : Try.prog.elem 22 = 5 := by kernel_rfl
theorem arr12_len : Try.prog.arrayLen 23 = 12 := by kernel_rfl
theorem arr12_elem : Try.prog.elem 23 = 5 := by kernel_rfl
theorem slice_arr32 (g lo : Nat) (kd : IntKind) (h1 : lo < 32) (w : World) :
    (Instr.sliceAt 22 (.pointer (some ⟨g, 0, none⟩)) (some (.int kd (lo : Int))) none none).run Try.prog w = .ok (.slice (some ⟨g, lo, none⟩) (32 - lo) (32 - lo)) w := by
  rw [run_sliceAt_array_l (P := Try.prog) w 22 ⟨g, 0, none⟩ (by rw [arr32_len, arr32_elem]; exact Try.underlying22) kd (lo : Int) (by omega) (by rw [arr32_len]; omega), arr32_elem, run_sizeOf_u8, arr32_len]
  simp only [Result.andThen_ok, slicedAt, Int.toNat_natCast]
  rw [if_neg (by omega)]
  simp only [Nat.mul_one, Addr.add]
  by_cases h : lo = 0
  · subst h; simp
  · simp [h]
theorem slice_arr12 (g lo : Nat) (kd : IntKind) (h1 : lo < 12) (w : World) :
    (Instr.sliceAt 23 (.pointer (some ⟨g, 0, none⟩)) (some (.int kd (lo : Int))) none none).run Try.prog w = .ok (.slice (some ⟨g, lo, none⟩) (12 - lo) (12 - lo)) w := by
  rw [run_sliceAt_array_l (P := Try.prog) w 23 ⟨g, 0, none⟩ (by rw [arr12_len, arr12_elem]; exact Try.underlying23) kd (lo : Int) (by omega) (by rw [arr12_len]; omega), arr12_elem, run_sizeOf_u8, arr12_len]
  simp only [Result.andThen_ok, slicedAt, Int.toNat_natCast]
  rw [if_neg (by omega)]
  simp only [Nat.mul_one, Addr.add]
  by_cases h : lo = 0
  · subst h; simp
  · simp [h]
def c4 : List Int := [0x61707865, 0x3320646e, 0x79622d32, 0x6b206574]
def kws (key : List Int) (i : Nat) : List Int := (List.range i).map fun j => w4 key (4 * j)
theorem kws_length (key : List Int) (i : Nat) : (kws key i).length = i := by simp [kws]
theorem kws_succ (key : List Int) (i : Nat) : kws key (i + 1) = kws key i ++ [w4 key (4 * i)] := by simp [kws, List.range_succ]
/-- The next place of a row that is filled from the front. -/
theorem fill_set (A : List Int) (n : Nat) (x : Int) : (A ++ List.replicate (n + 1) 0).set A.length x = (A ++ [x]) ++ List.replicate n 0 := by
  rw [List.set_append_right _ _ (Nat.le_refl _), Nat.sub_self, List.replicate_succ, List.set_cons_zero, List.append_assoc]
  rfl
theorem word_of {w : World} {g : Nat} {t : TypeId} {l : List Int} (hb : Blk w g t (IV .u8 l).toArray) (hB : Bytes l) (o n c : Nat) (hn : 4 ≤ n) (hm : n ≤ 9223372036854775807) (hl : o + 4 ≤ l.length) :
    Calls Try.prog 25 #[.slice (some ⟨g, o, none⟩) n c] w fun e w' => e = .returned (.int .u32 (w4 l o)) ∧ ∃ k, w' = w.drewN k := by
  have get : ∀ i, i < 4 → w.cell? ⟨g, o + i, none⟩ = some (.int .u8 (l.getD (o + i) 0)) := fun i hi => hb.cell_i (by rw [List.getD_eq_getElem?_getD, List.getElem?_eq_getElem (show o + i < l.length by omega)]; rfl)
  have h0 := get 0 (by omega)
  rw [Nat.add_zero] at h0
  exact word32_any g o n c _ _ _ _ w hn hm h0 (get 1 (by omega)) (get 2 (by omega)) (get 3 (by omega)) (getD_byte hB _) (getD_byte hB _) (getD_byte hB _) (getD_byte hB _)

set_option maxRecDepth 100000 in
set_option maxHeartbeats 1600000 in
theorem newState_any (key nonce : List Int) (n : Int) (w : World) (hk : key.length = 32) (hkb : Bytes key) (hn : nonce.length = 12) (hnb : Bytes nonce) :
    Calls Try.prog 35 #[.agg (IV .u8 key).toArray, .agg (IV .u8 nonce).toArray, .int .u32 n] w fun e w' => e = .returned (.agg (IV .u32 (cstate key nonce n).list).toArray) ∧ Below w.heap.size w w' := by
  obtain ⟨OUT, hOUT⟩ : ∃ OUT, OUT = (cstate key nonce n).list := ⟨_, rfl⟩
  rw [← hOUT]
  have hfin : c4 ++ kws key 8 ++ [n] ++ kws nonce 3 = OUT := by rw [hOUT]; rfl
  have HFIN := Lib.hid hfin
  have SOUT := Lib.hid (show (IV .u32 OUT).toArray.size = 16 by rw [hOUT]; rfl)
  have AOUT := Lib.hid (show (IV .u32 OUT).toArray.all (·.oneCell') = true by simp [IV, Value.oneCell'])
  have I16 := Lib.hid (show (Try.prog.info? 62).map (·.size) = some 16 by kernel_rfl)
  obtain ⟨KA, hKA⟩ : ∃ KA, KA = (IV .u8 key).toArray := ⟨_, rfl⟩
  obtain ⟨NA, hNA⟩ : ∃ NA, NA = (IV .u8 nonce).toArray := ⟨_, rfl⟩
  have HKA := Lib.hid hKA
  have HNA := Lib.hid hNA
  rw [← hKA, ← hNA]
  have HK := Lib.hid hk
  have HKB := Lib.hid hkb
  have HN := Lib.hid hn
  have HNB := Lib.hid hnb
  clear hOUT hfin hKA hNA hk hkb hn hnb
  go_enter Try.func35, Try.ntmps35
  go_wp2_with fail
  obtain ⟨WI, hWI⟩ : ∃ WI, WI = (((w.alloc (.cells KA 22)).alloc (.cells NA 23)).alloc (.cells (IV .u32 (List.replicate 16 0)).toArray 62)).alloc (.cells (IV .u32 (c4 ++ kws key 0 ++ List.replicate 12 0)).toArray 62) := ⟨_, rfl⟩
  obtain ⟨gS, hgS⟩ : ∃ gS, gS = w.heap.size + 1 + 1 + 1 := ⟨_, rfl⟩
  obtain ⟨gR, hgR⟩ : ∃ gR, gR = w.heap.size + 1 + 1 := ⟨_, rfl⟩
  have hK0 : Blk WI w.heap.size 22 (IV .u8 key).toArray := by rw [hWI, ← HKA.out]; exact ((Blk.new w _ KA).alloc _).alloc _ |>.alloc _
  have hN0 : Blk WI (w.heap.size + 1) 23 (IV .u8 nonce).toArray := by rw [hWI, ← HNA.out]; exact ((blk_second w _ _ NA).alloc _).alloc _
  have hR0 : Blk WI gR 62 (IV .u32 (List.replicate 16 0)).toArray := by
    rw [hWI, hgR]
    have h := (blk_second (w.alloc (.cells KA 22)) (.cells NA 23) 62 (IV .u32 (List.replicate 16 0)).toArray).alloc (.cells (IV .u32 (c4 ++ kws key 0 ++ List.replicate 12 0)).toArray 62)
    simpa using h
  have hS0 : Blk WI gS 62 (IV .u32 (c4 ++ kws key 0 ++ List.replicate 12 0)).toArray := by
    rw [hWI, hgS]
    have h := blk_second ((w.alloc (.cells KA 22)).alloc (.cells NA 23)) (.cells (IV .u32 (List.replicate 16 0)).toArray 62) 62 (IV .u32 (c4 ++ kws key 0 ++ List.replicate 12 0)).toArray
    simpa using h
  have hB0 : Below w.heap.size w WI := by rw [hWI]; exact ((((Below.refl _ _).alloc (Nat.le_refl _) _).alloc (by simp) _).alloc (by simp; omega) _).alloc (by simp; omega) _
  have lk : w.heap.size < gS := by omega
  have ln : w.heap.size + 1 < gS := by omega
  have lr : gR < gS := by omega
  have lr2 : w.heap.size < gR := by omega
  show Code.wp _ _ _ _ ((((w.alloc (.cells KA 22)).alloc (.cells NA 23)).alloc (.cells (IV .u32 (List.replicate 16 0)).toArray 62)).alloc (.cells (IV .u32 (c4 ++ kws key 0 ++ List.replicate 12 0)).toArray 62))
  rw [← hWI, ← hgS, ← hgR]
  clear hWI hgS hgR
  go_loopw [11] (fun i wr => ∃ (m : Nat), m ≤ 8 ∧ i = .int .i64 m ∧ Blk wr gS 62 (IV .u32 (c4 ++ kws key m ++ List.replicate (12 - m) 0)).toArray ∧ Blk wr w.heap.size 22 (IV .u8 key).toArray ∧ Blk wr (w.heap.size + 1) 23 (IV .u8 nonce).toArray ∧ Blk wr gR 62 (IV .u32 (List.replicate 16 0)).toArray ∧ Below w.heap.size w wr) (fun i _ => 8 - (intOf i).toNat)
  case atStart => exact ⟨0, by omega, rfl, hS0, hK0, hN0, hR0, hB0⟩
  case round =>
    obtain ⟨m, hm, rfl, bS, bK, bN, bR, bL⟩ := hrel
    have HS := Lib.hid bS
    have HKK := Lib.hid bK
    have HNN := Lib.hid bN
    have HRR := Lib.hid bR
    have HL := Lib.hid bL
    clear bS bK bN bR bL
    by_cases hm8 : m < 8
    · obtain ⟨a0, ha0⟩ : ∃ a0, a0 = 4 * m := ⟨_, rfl⟩
      obtain ⟨b0, hb0⟩ : ∃ b0, b0 = 4 + m := ⟨_, rfl⟩
      have e3 : 4 * (m : Int) = (a0 : Int) := by omega
      have e5 : 4 + (m : Int) = (b0 : Int) := by omega
      have hsl := slice_arr32 w.heap.size a0 .i64 (by omega)
      have C := Lib.hid (word_of HKK.out HKB.out a0 (32 - a0) (32 - a0) (by omega) (by omega) (by rw [HK.out]; omega))
      have ab : a0 < 32 := by omega
      have bb : b0 < 16 := by omega
      have hlen : (c4 ++ kws key m).length = b0 := by rw [List.length_append, kws_length, hb0]; rfl
      have hset : (c4 ++ kws key m ++ List.replicate (12 - m) 0).set b0 (w4 key a0) = c4 ++ kws key (m + 1) ++ List.replicate (12 - (m + 1)) 0 := by
        rw [show 12 - m = (12 - (m + 1)) + 1 by omega, ← hlen, fill_set, kws_succ, ← ha0, List.append_assoc c4]
      have HSET := Lib.hid hset
      have HLEN := Lib.hid hlen
      clear ha0 hb0 hlen hset
      go_wp2_with fail
      refine C.out.mono ?_
      rintro e w5 ⟨rfl, k5, hw5⟩
      have b5 : Below wr.heap.size wr w5 := by rw [hw5]; exact ⟨rfl, rfl, rfl, Nat.le_refl _, fun _ _ => rfl⟩
      have HS5 := Lib.hid (HS.out.below b5 HS.out.lt)
      have HK5 := Lib.hid (HKK.out.below b5 HKK.out.lt)
      have HN5 := Lib.hid (HNN.out.below b5 HNN.out.lt)
      have HR5 := Lib.hid (HRR.out.below b5 HRR.out.lt)
      have HL5 := Lib.hid (HL.out.trans (b5.mono HL.out.size))
      have cz : w5.cell? ⟨gS, b0, none⟩ = some (.int .u32 0) := HS5.out.cell_i (by rw [List.getElem?_append_right (by rw [HLEN.out]; exact Nat.le_refl _), HLEN.out, Nat.sub_self, List.getElem?_replicate, if_pos (by omega)])
      have cf := HS5.out.frozen b0
      have hst := HS5.out.store_i b0 (w4 key a0)
      rw [HSET.out] at hst
      have HST := Lib.hid hst
      clear hw5 b5 hst
      go_wp2_with fail
      go_roundw
      case rel => exact ⟨m + 1, by omega, by go_num, HST.out, HK5.out.far (p := ⟨gS, b0, none⟩) (by simp; omega) _, HN5.out.far (p := ⟨gS, b0, none⟩) (by simp; omega) _, HR5.out.far (p := ⟨gS, b0, none⟩) (by simp; omega) _, HL5.out.setCell (by simp; omega) _⟩
      case measure => simp [intOf]; omega
    · obtain rfl : m = 8 := by omega
      rw [show ((8 : Nat) : Int) = 8 from rfl]
      have hlen : (c4 ++ kws key 8).length = 12 := by rw [List.length_append, kws_length]; rfl
      have cz : wr.cell? ⟨gS, 12, none⟩ = some (.int .u32 0) := HS.out.cell_i (by rw [List.getElem?_append_right (by rw [hlen]; exact Nat.le_refl _), hlen]; rfl)
      have cf := HS.out.frozen 12
      have hst := HS.out.store_i 12 n
      have hset : (c4 ++ kws key 8 ++ List.replicate (12 - 8) 0).set 12 n = c4 ++ kws key 8 ++ [n] ++ kws nonce 0 ++ List.replicate (3 - 0) 0 := by
        rw [show (12 - 8 : Nat) = 3 + 1 from rfl, ← hlen, fill_set]; simp [kws]
      rw [hset] at hst
      have HS1 := Lib.hid hst
      have HK1 := Lib.hid (HKK.out.far (p := ⟨gS, 12, none⟩) (by simp; omega) (.int .u32 n))
      have HN1 := Lib.hid (HNN.out.far (p := ⟨gS, 12, none⟩) (by simp; omega) (.int .u32 n))
      have HR1 := Lib.hid (HRR.out.far (p := ⟨gS, 12, none⟩) (by simp; omega) (.int .u32 n))
      have HL1 := Lib.hid (HL.out.setCell (p := ⟨gS, 12, none⟩) (by simp; omega) (.int .u32 n))
      have HLEN := Lib.hid hlen
      clear hlen hst hset HS HKK HNN HRR HL
      go_wp2_with fail
      obtain ⟨WJ, hWJ⟩ : ∃ WJ, WJ = wr.setCell ⟨gS, 12, none⟩ (.int .u32 n) := ⟨_, rfl⟩
      show Code.wp _ _ _ _ (wr.setCell ⟨gS, 12, none⟩ (.int .u32 n))
      rw [← hWJ] at HS1 HK1 HN1 HR1 HL1 ⊢
      clear hWJ cz cf
      go_loopw [24] (fun i wr => ∃ (m : Nat), m ≤ 3 ∧ i = .int .i64 m ∧ Blk wr gS 62 (IV .u32 (c4 ++ kws key 8 ++ [n] ++ kws nonce m ++ List.replicate (3 - m) 0)).toArray ∧ Blk wr (w.heap.size + 1) 23 (IV .u8 nonce).toArray ∧ Blk wr gR 62 (IV .u32 (List.replicate 16 0)).toArray ∧ Below w.heap.size w wr) (fun i _ => 3 - (intOf i).toNat)
      case atStart => exact ⟨0, by omega, rfl, HS1.out, HN1.out, HR1.out, HL1.out⟩
      case round =>
        obtain ⟨m, hm, rfl, bS, bN, bR, bL⟩ := hrel
        have HS := Lib.hid bS
        have HNN := Lib.hid bN
        have HRR := Lib.hid bR
        have HL := Lib.hid bL
        clear bS bN bR bL HS1 HK1 HN1 HR1 HL1
        by_cases hm3 : m < 3
        · obtain ⟨a0, ha0⟩ : ∃ a0, a0 = 4 * m := ⟨_, rfl⟩
          obtain ⟨b0, hb0⟩ : ∃ b0, b0 = 13 + m := ⟨_, rfl⟩
          have e3 : 4 * (m : Int) = (a0 : Int) := by omega
          have e5 : 13 + (m : Int) = (b0 : Int) := by omega
          have hsl := slice_arr12 (w.heap.size + 1) a0 .i64 (by omega)
          have C := Lib.hid (word_of HNN.out HNB.out a0 (12 - a0) (12 - a0) (by omega) (by omega) (by rw [HN.out]; omega))
          have ab : a0 < 12 := by omega
          have bb : b0 < 16 := by omega
          have hlen : (c4 ++ kws key 8 ++ [n] ++ kws nonce m).length = b0 := by simp only [List.length_append, kws_length, List.length_cons, List.length_nil, hb0]; rfl
          have hset : (c4 ++ kws key 8 ++ [n] ++ kws nonce m ++ List.replicate (3 - m) 0).set b0 (w4 nonce a0) = c4 ++ kws key 8 ++ [n] ++ kws nonce (m + 1) ++ List.replicate (3 - (m + 1)) 0 := by
            rw [show 3 - m = (3 - (m + 1)) + 1 by omega, ← hlen, fill_set, kws_succ nonce m, ← ha0, List.append_assoc (c4 ++ kws key 8 ++ [n])]
          have HSET := Lib.hid hset
          have HLEN2 := Lib.hid hlen
          clear ha0 hb0 hlen hset
          go_wp2_with fail
          refine C.out.mono ?_
          rintro e w5 ⟨rfl, k5, hw5⟩
          have b5 : Below wr.heap.size wr w5 := by rw [hw5]; exact ⟨rfl, rfl, rfl, Nat.le_refl _, fun _ _ => rfl⟩
          have HS5 := Lib.hid (HS.out.below b5 HS.out.lt)
          have HN5 := Lib.hid (HNN.out.below b5 HNN.out.lt)
          have HR5 := Lib.hid (HRR.out.below b5 HRR.out.lt)
          have HL5 := Lib.hid (HL.out.trans (b5.mono HL.out.size))
          have cz : w5.cell? ⟨gS, b0, none⟩ = some (.int .u32 0) := HS5.out.cell_i (by rw [List.getElem?_append_right (by rw [HLEN2.out]; exact Nat.le_refl _), HLEN2.out, Nat.sub_self, List.getElem?_replicate, if_pos (by omega)])
          have cf := HS5.out.frozen b0
          have hst := HS5.out.store_i b0 (w4 nonce a0)
          rw [HSET.out] at hst
          have HST := Lib.hid hst
          clear hw5 b5 hst
          go_wp2_with fail
          go_roundw
          case rel => exact ⟨m + 1, by omega, by go_num, HST.out, HN5.out.far (p := ⟨gS, b0, none⟩) (by simp; omega) _, HR5.out.far (p := ⟨gS, b0, none⟩) (by simp; omega) _, HL5.out.setCell (by simp; omega) _⟩
          case measure => simp [intOf]; omega
        · obtain rfl : m = 3 := by omega
          have hSO : Blk wr gS 62 (IV .u32 OUT).toArray := by
            have h := HS.out
            rw [Nat.sub_self, List.replicate_zero, List.append_nil, HFIN.out] at h
            exact h
          have HSO := Lib.hid hSO
          clear hSO
          go_wp2_with (first
            | refine wpList_load_row rfl 62 (.tmp 7) rfl gS rfl 62 (IV .u32 OUT).toArray (0, 0) _ HSO.out Try.underlying62 rfl (by rw [SOUT.out]; exact I16.out) ?_
            | refine wpList_store_row rfl 62 (.tmp 6) (.tmp 35) rfl gR (IV .u32 OUT).toArray rfl rfl 62 _ HRR.out (by rw [SOUT.out]; exact I16.out) (by rw [SOUT.out]; rfl) AOUT.out ?_)
          refine bodyPost_ret (v := .agg (IV .u32 OUT).toArray) (results_cell_row rfl _ _ gR 62 _ (0, 0) _ rfl (Blk.row HRR.out _) Try.underlying62 rfl (by rw [SOUT.out]; exact I16.out)) rfl ⟨rfl, ?_⟩
          exact below_setRow HL.out (by omega) _
end Go.Proofs.Ytpedajjmbdjfiaa
