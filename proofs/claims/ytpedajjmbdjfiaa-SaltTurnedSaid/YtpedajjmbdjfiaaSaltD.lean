import Derived.Test.YtpedajjmbdjfiaaSaltB
import Derived.Test.YtpedajjmbdjfiaaSaltC
import Derived.StillTailTactics
namespace Go.Proofs.Ytpedajjmbdjfiaa
open Go.RowKit
set_option linter.unusedVariables false

theorem xorb_length {l s : List Int} (h : l.length ≤ s.length) : (xorb l s).length = l.length := by simp [xorb]; omega
theorem xorb_bytes {l s : List Int} (hl : Bytes l) (hs : Bytes s) : Bytes (xorb l s) := by
  intro x hx
  unfold xorb at hx
  obtain ⟨i, hi, rfl⟩ := List.mem_iff_getElem.1 hx
  rw [List.getElem_zipWith]
  exact xor8 (hl _ (List.getElem_mem _)) (hs _ (List.getElem_mem _))
/-- A row under way: its first t bytes are done. -/
def half (l E rest : List Int) (t : Nat) : List Int := E.take t ++ l.drop t ++ rest
theorem half_length {l E : List Int} (h : E.length = l.length) (rest : List Int) (t : Nat) : (half l E rest t).length = l.length + rest.length := by
  simp only [half, List.length_append, List.length_take, List.length_drop]; omega
theorem half_at {l E rest : List Int} (h : E.length = l.length) {t : Nat} (ht : t < l.length) : (half l E rest t)[t]? = some l[t] := by
  unfold half
  rw [List.append_assoc, List.getElem?_append_right (by rw [List.length_take]; omega), List.length_take, show t - min t E.length = 0 by omega, List.getElem?_append_left (by rw [List.length_drop]; omega), List.getElem?_drop, Nat.add_zero, List.getElem?_eq_getElem ht]
theorem half_set {l E rest : List Int} (h : E.length = l.length) {t : Nat} (ht : t < l.length) {e : Int} (he : E[t]? = some e) : (half l E rest t).set t e = half l E rest (t + 1) := by
  unfold half
  obtain ⟨x, hx⟩ : ∃ x, l.drop t = x :: l.drop (t + 1) := ⟨l[t], List.drop_eq_getElem_cons ht⟩
  have e1 : (E.take t).length = t := by rw [List.length_take]; omega
  rw [hx, List.append_assoc, List.set_append_right _ _ (by omega), e1, Nat.sub_self, List.cons_append, List.set_cons_zero, List.take_add_one, he]
  simp
theorem half_zero (l E rest : List Int) : half l E rest 0 = l ++ rest := by simp [half]
theorem half_all {l E : List Int} (h : E.length = l.length) (rest : List Int) {t : Nat} (ht : l.length ≤ t) : half l E rest t = E ++ rest := by
  unfold half
  rw [List.take_of_length_le (by omega), List.drop_of_length_le ht]; simp
theorem xorb_at {l s : List Int} {t : Nat} {x : Int} (ht : t < l.length) (hs : s[t]? = some x) : (xorb l s)[t]? = some (bits .xor .u8 l[t] x) := by
  simp only [xorb, List.getElem?_zipWith, List.getElem?_eq_getElem ht, hs]
theorem stream_at_block (key nonce : List Int) (f : Int) (n k j : Nat) (hj : j < 64) (hn : 64 * k + j < n) : (stream key nonce f n)[64 * k + j]? = (cblock key nonce (f + k))[j]? := by
  unfold stream
  obtain ⟨d, hd⟩ : ∃ d, (n + 63) / 64 = k + (d + 1) := ⟨(n + 63) / 64 - k - 1, by omega⟩
  rw [List.getElem?_take, if_pos hn, hd, cblocks_split, List.getElem?_append_right (by rw [cblocks_length]; omega), cblocks_length, Nat.add_sub_cancel_left, cblocks, List.getElem?_append_left (by rw [cblock_length]; exact hj)]
theorem slice_adv (g q L c n : Nat) (kd : IntKind) (h1 : n ≤ L) (h2 : L ≤ c) : ∃ A', (∀ w, (Instr.slice 27 (.slice (some ⟨g, q, none⟩) L c) (some (.int kd (n : Int))) none none).run Try.prog w = .ok (.slice A' (L - n) (c - n)) w) ∧ (0 < L - n → A' = some ⟨g, q + n, none⟩) := by
  refine ⟨if c = n then some ⟨g, q, none⟩ else some ((⟨g, q, none⟩ : Addr).add (n * 1)), fun w => ?_, fun h => ?_⟩
  · rw [run_slice_l (P := Try.prog) w 27 (some ⟨g, q, none⟩) L c (by rw [elem_u8]; exact Try.underlying27) kd (n : Int) (by omega) (by omega), elem_u8]
    rw [run_sizeOf_u8]
    simp [sliced]
  · rw [if_neg (by omega), Nat.mul_one, Addr.add_mid]
theorem cstate_next (key nonce : List Int) (m : Int) : (cstate key nonce m).list.set 12 ((m + 1) % 4294967296) = (cstate key nonce ((m + 1) % 4294967296)).list := rfl
theorem cstate_at12 (key nonce : List Int) (m : Int) : (cstate key nonce m).list[12]? = some m := rfl
theorem zero16 (w : World) : (zeroValue 62).run Try.prog w = .ok (.agg (IV .u32 (List.replicate 16 0)).toArray) w := rfl

set_option maxRecDepth 100000 in
set_option maxHeartbeats 6400000 in
theorem xor_any (g : Nat) (t : TypeId) (l rest : List Int) (c : Nat) (key nonce : List Int) (f : Int) (w : World) (hg : Blk w g t (IV .u8 (l ++ rest)).toArray) (hlb : Bytes l) (hc : l.length ≤ c) (hm : c ≤ 9223372036854775807)
    (hk : key.length = 32) (hkb : Bytes key) (hn : nonce.length = 12) (hnb : Bytes nonce) (hf : W32 f) :
    Calls Try.prog 23 #[.slice (some ⟨g, 0, none⟩) l.length c, .agg (IV .u8 key).toArray, .agg (IV .u8 nonce).toArray, .int .u32 f] w fun e w' =>
      e = .returned (.tuple #[]) ∧ Blk w' g t (IV .u8 (xorb l (stream key nonce f l.length) ++ rest)).toArray ∧ w.grownBy w' (some g) := by
  have hgl := hg.lt
  obtain ⟨ST, hST⟩ : ∃ ST, ST = stream key nonce f l.length := ⟨_, rfl⟩
  have hSTl : ST.length = l.length := by rw [hST]; exact stream_length _ _ _ _
  obtain ⟨E, hE⟩ : ∃ E, E = xorb l ST := ⟨_, rfl⟩
  have hEl : E.length = l.length := by rw [hE]; exact xorb_length (by omega)
  rw [← hST, ← hE]
  obtain ⟨KA, hKA⟩ : ∃ KA, KA = (IV .u8 key).toArray := ⟨_, rfl⟩
  obtain ⟨NA, hNA⟩ : ∃ NA, NA = (IV .u8 nonce).toArray := ⟨_, rfl⟩
  have SK := Lib.hid (show KA.size = 32 by rw [hKA]; simp [IV, hk])
  have SN := Lib.hid (show NA.size = 12 by rw [hNA]; simp [IV, hn])
  have I32 := Lib.hid (show (Try.prog.info? 22).map (·.size) = some 32 by kernel_rfl)
  have I12 := Lib.hid (show (Try.prog.info? 23).map (·.size) = some 12 by kernel_rfl)
  have I16 := Lib.hid (show (Try.prog.info? 62).map (·.size) = some 16 by kernel_rfl)
  have I64 := Lib.hid (show (Try.prog.info? 64).map (·.size) = some 64 by kernel_rfl)
  have CN := Lib.hid (fun W => newState_any key nonce f W hk hkb hn hnb)
  rw [← hKA, ← hNA] at CN ⊢
  have COK := Lib.hid (fun (m : Int) (hm : W32 m) => cstate_ok hkb hnb hm)
  obtain ⟨Z16, hZ16⟩ : ∃ Z, Z = (IV .u32 (List.replicate 16 0)).toArray := ⟨_, rfl⟩
  obtain ⟨Z64, hZ64⟩ : ∃ Z, Z = (IV .u8 (List.replicate 64 0)).toArray := ⟨_, rfl⟩
  have hz16 : ∀ w, (zeroValue 62).run Try.prog w = .ok (.agg Z16) w := by rw [hZ16]; exact zero16
  have hz64 : ∀ w, (zeroValue 64).run Try.prog w = .ok (.agg Z64) w := by rw [hZ64]; exact zero64
  have ZS16 := Lib.hid (show Z16.size = 16 by rw [hZ16]; rfl)
  have ZS64 := Lib.hid (show Z64.size = 64 by rw [hZ64]; rfl)
  have HG := Lib.hid hg
  have HST := Lib.hid hST
  have HE := Lib.hid hE
  have HEL := Lib.hid hEl
  have HLB := Lib.hid hlb
  have HF := Lib.hid hf
  have hl63 : l.length ≤ 9223372036854775807 := by omega
  clear hg hlb hKA hNA hST hE hEl hk hkb hn hnb hf hZ16 hZ64 hSTl
  go_enter Try.func23, Try.ntmps23
  go_wp2_with (first
    | refine wpList_load_row rfl 22 (.tmp 5) rfl w.heap.size rfl 22 KA (0, 0) _ ((Blk.new w _ KA).alloc _) Try.underlying22 rfl (by rw [SK.out]; exact I32.out) ?_
    | refine wpList_load_row rfl 23 (.tmp 6) rfl (w.heap.size + 1) rfl 23 NA (0, 0) _ (blk_second w _ _ NA) Try.underlying23 rfl (by rw [SN.out]; exact I12.out) ?_)
  refine (CN.out _).mono ?_
  rintro e w1 ⟨rfl, b1⟩
  have G1 := Lib.hid (show Blk w1 g t (IV .u8 (half l E rest 0)).toArray by rw [half_zero]; exact ((HG.out.alloc _).alloc _).below b1 (by simp; omega))
  have OG1 := Lib.hid (show w.grownBy w1 (some g) from only_of_below ((((Below.refl _ _).alloc (Nat.le_refl _) _).alloc (by simp) _).trans (b1.mono (by simp; omega))) _)
  obtain ⟨SA, hSA⟩ : ∃ SA, SA = (IV .u32 (cstate key nonce f).list).toArray := ⟨_, rfl⟩
  rw [← hSA]
  have SSA := Lib.hid (show SA.size = 16 by rw [hSA]; rfl)
  have ASA := Lib.hid (show SA.all (·.oneCell') = true by rw [hSA]; simp [IV, Value.oneCell'])
  have HSA := Lib.hid hSA
  clear b1 CN hSA
  go_wp2_with (refine wpList_store_row rfl 62 (.tmp 8) (.tmp 15) rfl w1.heap.size SA rfl rfl 62 Z16 (Blk.new w1 _ _) (by rw [SSA.out]; exact I16.out) (by rw [SSA.out, ZS16.out]) ASA.out ?_
               have T2 := Lib.hid (Blk.row (Blk.new w1 62 Z16) SA)
               have B2 := Lib.hid (below_setRow ((Below.refl w1.heap.size w1).alloc (Nat.le_refl _) (.cells Z16 62)) (Nat.le_refl _) SA)
               generalize (w1.alloc (.cells Z16 62)).setRow w1.heap.size SA = w2 at T2 B2 ⊢)
  have hw1 : w.heap.size ≤ w1.heap.size := OG1.out.size
  have G2 := Lib.hid (G1.out.below B2.out (by omega))
  have OG2 := Lib.hid (only_trans OG1.out (only_of_below B2.out (some g)))
  have hT : w1.heap.size < w2.heap.size := T2.out.lt
  have T2' := Lib.hid (show Blk w2 w1.heap.size 62 (IV .u32 (cstate key nonce f).list).toArray by rw [← HSA.out]; exact T2.out)
  obtain ⟨gT, hgT⟩ : ∃ gT, gT = w1.heap.size := ⟨_, rfl⟩
  have hgT1 : g < gT := by omega
  rw [← hgT] at T2' ⊢
  have HGT := Lib.hid (show w.heap.size ≤ gT by omega)
  clear G1 OG1 B2 T2 hgT hT
  rw [show ∀ (a : Act) (v : Value), a.put none v = a from fun _ _ => rfl]
  go_loopw [0] (fun p wr => ∃ (k q : Nat) (A : Option Addr) (c1 : Nat) (m : Int), q = min (64 * k) l.length ∧ p = .slice A (l.length - q) c1 ∧ l.length - q ≤ c1 ∧ c1 ≤ c ∧ (0 < l.length - q → A = some ⟨g, q, none⟩) ∧ m = (f + k) % 4294967296 ∧ Blk wr g t (IV .u8 (half l E rest q)).toArray ∧ Blk wr gT 62 (IV .u32 (cstate key nonce m).list).toArray ∧ w.grownBy wr (some g)) (fun p _ => match p with | .slice _ n _ => n | _ => 0)
  case atStart =>
    have hf := HF.out
    exact ⟨0, 0, some ⟨g, 0, none⟩, c, f, by omega, rfl, by omega, Nat.le_refl _, fun _ => rfl, by rw [Int.natCast_zero, Int.add_zero]; exact (Int.emod_eq_of_lt hf.1 hf.2).symm, G2.out, T2'.out, OG2.out⟩
  case round =>
    obtain ⟨k, q, A, c1, m, hq, rfl, hc1, hc2, hA, hmm, bG, bT, og⟩ := hrel
    obtain ⟨L1, hL1⟩ : ∃ L1, L1 = l.length - q := ⟨_, rfl⟩
    rw [← hL1] at hA hc1 ⊢
    have BG := Lib.hid bG
    have BT := Lib.hid bT
    have OG := Lib.hid og
    have HQ := Lib.hid hq
    have HMM := Lib.hid hmm
    have HL1 := Lib.hid hL1
    clear bG bT og G2 T2' OG2
    by_cases hpos : 0 < L1
    · obtain rfl := hA hpos
      have hq64 : q = 64 * k := by omega
      have wm : W32 m := by rw [hmm]; exact W32.mod _
      have hzp : (0 : Int) < (L1 : Int) := by omega
      have hL63 : L1 ≤ 9223372036854775807 := by omega
      obtain ⟨KB, hKB⟩ : ∃ KB, KB = kblock (cstate key nonce m) := ⟨_, rfl⟩
      have hKBc : KB = cblock key nonce (f + k) := by rw [hKB, hmm]; rfl
      have hKBl : KB.length = 64 := by rw [hKB]; exact kblock_length _
      obtain ⟨SA2, hSA2⟩ : ∃ SA2, SA2 = (IV .u32 (cstate key nonce m).list).toArray := ⟨_, rfl⟩
      have CK : ∀ W, Calls Try.prog 36 #[.agg SA2] W fun e w' => e = .returned (.agg (IV .u8 KB).toArray) ∧ Below W.heap.size W w' := fun W => by rw [hSA2, hKB]; exact keyBlock_any (cstate key nonce m) W (COK.out m wm)
      have CKH := Lib.hid CK
      have SSA2 := Lib.hid (show SA2.size = 16 by rw [hSA2]; rfl)
      have HT2 := Lib.hid (show Blk _ gT 62 SA2 by rw [hSA2]; exact BT.out)
      have SKB := Lib.hid (show (IV .u8 KB).toArray.size = 64 by simp [IV, hKBl])
      have AKB := Lib.hid (show (IV .u8 KB).toArray.all (·.oneCell') = true by simp [IV, Value.oneCell'])
      have HKBC := Lib.hid hKBc
      have HKBL := Lib.hid hKBl
      have HQ64 := Lib.hid hq64
      have HWM := Lib.hid wm
      clear CK hSA2 hKB hKBc hKBl hq hmm hL1 hq64 wm hA
      go_wp2_with (refine wpList_load_row rfl 62 (.tmp 8) rfl gT rfl 62 SA2 (0, 0) _ HT2.out Try.underlying62 rfl (by rw [SSA2.out]; exact I16.out) ?_)
      refine (CKH.out _).mono ?_
      rintro e w3 ⟨rfl, b3⟩
      have hgw : g < w.heap.size := hgl
      have hs1 := OG.out.size
      have G3 := Lib.hid (BG.out.below b3 BG.out.lt)
      have T3 := Lib.hid (BT.out.below b3 BT.out.lt)
      have OG3 := Lib.hid (only_trans OG.out (only_of_below (row := some g) (b3.mono (Nat.le_refl _)) |> fun h => h))
      clear b3 CKH
      by_cases hbig : L1 ≤ 64
      · have hz1 : (L1 : Int) ≤ 64 := by omega
        go_wp2_with (refine wpList_store_row rfl 64 (.tmp 9) (.tmp 20) rfl w3.heap.size (IV .u8 KB).toArray rfl rfl 64 Z64 (Blk.new w3 _ _) (by rw [SKB.out]; exact I64.out) (by rw [SKB.out, ZS64.out]) AKB.out ?_
                     have K4 := Lib.hid (Blk.row (Blk.new w3 64 Z64) (IV .u8 KB).toArray)
                     have B4 := Lib.hid (below_setRow ((Below.refl w3.heap.size w3).alloc (Nat.le_refl _) (.cells Z64 64)) (Nat.le_refl _) (IV .u8 KB).toArray)
                     generalize (w3.alloc (.cells Z64 64)).setRow w3.heap.size (IV .u8 KB).toArray = w4 at K4 B4 ⊢)
        have G4 := Lib.hid (G3.out.below B4.out G3.out.lt)
        have T4 := Lib.hid (T3.out.below B4.out T3.out.lt)
        have OG4 := Lib.hid (only_trans OG3.out (only_of_below B4.out (some g)))
        obtain ⟨gB, hgB⟩ : ∃ gB, gB = w3.heap.size := ⟨_, rfl⟩
        have hw3 : gT < gB := by have := T3.out.lt; omega
        have hw0 : w.heap.size ≤ gB := by have := HGT.out; omega
        rw [← hgB] at K4 ⊢
        clear G3 T3 OG3 B4 hgB
        go_loopw [25] (fun i wr => ∃ (j : Nat), j ≤ L1 ∧ i = .int .i64 j ∧ Blk wr g t (IV .u8 (half l E rest (q + j))).toArray ∧ Blk wr gT 62 (IV .u32 (cstate key nonce m).list).toArray ∧ Blk wr gB 64 (IV .u8 KB).toArray ∧ w.grownBy wr (some g)) (fun i _ => L1 - (intOf i).toNat)
        case atStart => exact ⟨0, by omega, rfl, G4.out, T4.out, K4.out, OG4.out⟩
        case round =>
          obtain ⟨j, hj, rfl, bG, bT, bK, og⟩ := hrel
          have G5 := Lib.hid bG
          have T5 := Lib.hid bT
          have K5 := Lib.hid bK
          have O5 := Lib.hid og
          clear bG bT bK og G4 T4 OG4 K4
          by_cases hjn : j < L1
          · have hqj : q + j < l.length := by have := HL1.out; omega
            have hj64 : j < 64 := by omega
            obtain ⟨x, gk⟩ : ∃ x, KB[j]? = some x := ⟨_, List.getElem?_eq_getElem (by rw [HKBL.out]; exact hj64)⟩
            obtain ⟨y, hy⟩ : ∃ y, y = l[q + j] := ⟨_, rfl⟩
            have cK : wr.cell? ⟨gB, j, none⟩ = some (.int .u8 x) := K5.out.cell_i gk
            have cG : wr.cell? ⟨g, q + j, none⟩ = some (.int .u8 y) := by rw [hy]; exact G5.out.cell_i (half_at HEL.out hqj)
            have fG := G5.out.frozen (q + j)
            have hsx : ST[q + j]? = some x := by
              rw [HST.out, HQ64.out, stream_at_block key nonce f l.length k j hj64 (by rw [← HQ64.out]; exact hqj), ← HKBC.out]
              exact gk
            have heq : E[q + j]? = some (bits .xor .u8 y x) := by rw [HE.out, hy]; exact xorb_at hqj hsx
            have hset := half_set (rest := rest) HEL.out hqj heq
            have hst := G5.out.store_i (q + j) (bits .xor .u8 y x)
            rw [hset] at hst
            have HSTO := Lib.hid hst
            have j1 : (0 : Int) ≤ (j : Int) := by omega
            have j2 : (j : Int) < (L1 : Int) := by omega
            have j3 : (j : Int) < 64 := by omega
            have j5 : (j : Int) < (L1 : Int) := by omega
            have j6 : j < L1 := by omega
            clear gk hy hsx heq hset hst
            go_wp2_with fail
            go_still_tail 9, (by kernel_rfl)
            go_wp2_with fail
            go_roundw
            case rel => exact ⟨j + 1, by omega, by go_num, HSTO.out, T5.out.far (p := ⟨g, q + j, none⟩) (by simp; omega) _, K5.out.far (p := ⟨g, q + j, none⟩) (by simp; omega) _, only_setCell (only_drewN O5.out 1) (p := ⟨g, q + j, none⟩) (.inl rfl) _⟩
            case measure => simp [intOf]; omega
          · have hjN : j = L1 := by omega
            have HJN := Lib.hid hjN
            obtain ⟨A9, v1, v2⟩ := slice_adv g q L1 c1 L1 .i64 (by omega) hc1
            have V2 := Lib.hid v2
            have c12 : wr.cell? ⟨gT, 12, none⟩ = some (.int .u32 m) := T5.out.cell_i (cstate_at12 _ _ _)
            have f12 := T5.out.frozen 12
            obtain ⟨m2, hm2⟩ : ∃ m2, m2 = (m + 1) % 4294967296 := ⟨_, rfl⟩
            have em : (m + 1) % 4294967296 = m2 := hm2.symm
            have hst := T5.out.store_i 12 m2
            rw [hm2, cstate_next, ← hm2] at hst
            have HSTO := Lib.hid hst
            have HM2 := Lib.hid hm2
            have hnl : ¬ ((j : Int) < (L1 : Int)) := by omega
            have hwm := HWM.out
            obtain ⟨m0, m1⟩ := hwm
            have hq' : q + j = min (64 * (k + 1)) l.length := by have := HL1.out; have := HQ64.out; omega
            have HQ' := Lib.hid hq'
            clear v2 hst hm2 hjN hq'
            go_wp2_with fail
            refine ⟨⟨k + 1, q + j, A9, c1 - L1, m2, HQ'.out, ?_, ?_, ?_, ?_, ?_, ?_, ?_, ?_⟩, ?_⟩
            · congr 1; have := HL1.out; have := HJN.out; omega
            · have := HL1.out; have := HJN.out; omega
            · omega
            · intro h
              rw [V2.out (by have := HL1.out; have := HJN.out; omega), HJN.out]
            · rw [HM2.out, HMM.out]; have := HWM.out; rw [Int.natCast_add]; omega
            · exact G5.out.far (p := ⟨gT, 12, none⟩) (by simp; omega) _
            · exact HSTO.out
            · exact only_setCell O5.out (p := ⟨gT, 12, none⟩) (.inr HGT.out) _
            · first
                | (show L1 - L1 < L1; omega)
                | (show 0 < L1; omega)
      · have hz1 : ¬ (L1 : Int) ≤ 64 := by omega
        have hz2 : (64 : Int) < (L1 : Int) := by omega
        go_wp2_with (refine wpList_store_row rfl 64 (.tmp 9) (.tmp 20) rfl w3.heap.size (IV .u8 KB).toArray rfl rfl 64 Z64 (Blk.new w3 _ _) (by rw [SKB.out]; exact I64.out) (by rw [SKB.out, ZS64.out]) AKB.out ?_
                     have K4 := Lib.hid (Blk.row (Blk.new w3 64 Z64) (IV .u8 KB).toArray)
                     have B4 := Lib.hid (below_setRow ((Below.refl w3.heap.size w3).alloc (Nat.le_refl _) (.cells Z64 64)) (Nat.le_refl _) (IV .u8 KB).toArray)
                     generalize (w3.alloc (.cells Z64 64)).setRow w3.heap.size (IV .u8 KB).toArray = w4 at K4 B4 ⊢)
        have G4 := Lib.hid (G3.out.below B4.out G3.out.lt)
        have T4 := Lib.hid (T3.out.below B4.out T3.out.lt)
        have OG4 := Lib.hid (only_trans OG3.out (only_of_below B4.out (some g)))
        obtain ⟨gB, hgB⟩ : ∃ gB, gB = w3.heap.size := ⟨_, rfl⟩
        have hw3 : gT < gB := by have := T3.out.lt; omega
        have hw0 : w.heap.size ≤ gB := by have := HGT.out; omega
        rw [← hgB] at K4 ⊢
        clear G3 T3 OG3 B4 hgB
        go_loopw [25] (fun i wr => ∃ (j : Nat), j ≤ 64 ∧ i = .int .i64 j ∧ Blk wr g t (IV .u8 (half l E rest (q + j))).toArray ∧ Blk wr gT 62 (IV .u32 (cstate key nonce m).list).toArray ∧ Blk wr gB 64 (IV .u8 KB).toArray ∧ w.grownBy wr (some g)) (fun i _ => 64 - (intOf i).toNat)
        case atStart => exact ⟨0, by omega, rfl, G4.out, T4.out, K4.out, OG4.out⟩
        case round =>
          obtain ⟨j, hj, rfl, bG, bT, bK, og⟩ := hrel
          have G5 := Lib.hid bG
          have T5 := Lib.hid bT
          have K5 := Lib.hid bK
          have O5 := Lib.hid og
          clear bG bT bK og G4 T4 OG4 K4
          by_cases hjn : j < 64
          · have hqj : q + j < l.length := by have := HL1.out; omega
            have hj64 : j < 64 := by omega
            obtain ⟨x, gk⟩ : ∃ x, KB[j]? = some x := ⟨_, List.getElem?_eq_getElem (by rw [HKBL.out]; exact hj64)⟩
            obtain ⟨y, hy⟩ : ∃ y, y = l[q + j] := ⟨_, rfl⟩
            have cK : wr.cell? ⟨gB, j, none⟩ = some (.int .u8 x) := K5.out.cell_i gk
            have cG : wr.cell? ⟨g, q + j, none⟩ = some (.int .u8 y) := by rw [hy]; exact G5.out.cell_i (half_at HEL.out hqj)
            have fG := G5.out.frozen (q + j)
            have hsx : ST[q + j]? = some x := by
              rw [HST.out, HQ64.out, stream_at_block key nonce f l.length k j hj64 (by rw [← HQ64.out]; exact hqj), ← HKBC.out]
              exact gk
            have heq : E[q + j]? = some (bits .xor .u8 y x) := by rw [HE.out, hy]; exact xorb_at hqj hsx
            have hset := half_set (rest := rest) HEL.out hqj heq
            have hst := G5.out.store_i (q + j) (bits .xor .u8 y x)
            rw [hset] at hst
            have HSTO := Lib.hid hst
            have j1 : (0 : Int) ≤ (j : Int) := by omega
            have j3 : (j : Int) < 64 := by omega
            have j5 : (j : Int) < (L1 : Int) := by omega
            have j6 : j < L1 := by omega
            clear gk hy hsx heq hset hst
            go_wp2_with fail
            go_still_tail 9, (by kernel_rfl)
            go_wp2_with fail
            go_roundw
            case rel => exact ⟨j + 1, by omega, by go_num, HSTO.out, T5.out.far (p := ⟨g, q + j, none⟩) (by simp; omega) _, K5.out.far (p := ⟨g, q + j, none⟩) (by simp; omega) _, only_setCell (only_drewN O5.out 1) (p := ⟨g, q + j, none⟩) (.inl rfl) _⟩
            case measure => simp [intOf]; omega
          · have hjN : j = 64 := by omega
            have HJN := Lib.hid hjN
            have c12 : wr.cell? ⟨gT, 12, none⟩ = some (.int .u32 m) := T5.out.cell_i (cstate_at12 _ _ _)
            have f12 := T5.out.frozen 12
            obtain ⟨m2, hm2⟩ : ∃ m2, m2 = (m + 1) % 4294967296 := ⟨_, rfl⟩
            have em : (m + 1) % 4294967296 = m2 := hm2.symm
            have hst := T5.out.store_i 12 m2
            rw [hm2, cstate_next, ← hm2] at hst
            have HSTO := Lib.hid hst
            have HM2 := Lib.hid hm2
            have hnl : ¬ ((j : Int) < 64) := by omega
            have hwm := HWM.out
            obtain ⟨m0, m1⟩ := hwm
            have hq' : q + j = min (64 * (k + 1)) l.length := by have := HL1.out; have := HQ64.out; omega
            have HQ' := Lib.hid hq'
            clear hst hm2 hjN hq'
            go_wp2_with fail
            refine ⟨⟨k + 1, q + j, some ⟨g, q + 64, none⟩, c1 - 64, m2, HQ'.out, ?_, ?_, ?_, ?_, ?_, ?_, ?_, ?_⟩, ?_⟩
            · rw [show l.length - (q + j) = L1 - 64 by have h1 := HL1.out; have h2 := HJN.out; omega]
            · have := HL1.out; have := HJN.out; omega
            · omega
            · intro h
              rw [HJN.out]
            · rw [HM2.out, HMM.out]; have := HWM.out; rw [Int.natCast_add]; omega
            · exact G5.out.far (p := ⟨gT, 12, none⟩) (by simp; omega) _
            · exact HSTO.out
            · exact only_setCell O5.out (p := ⟨gT, 12, none⟩) (.inr HGT.out) _
            · first
                | (show L1 - 64 < L1; omega)
                | (show 0 < L1; omega)
    · obtain rfl : L1 = 0 := by omega
      have hfin := BG.out
      rw [half_all HEL.out rest (by have := HL1.out; have := HQ.out; omega)] at hfin
      have HFIN := Lib.hid hfin
      clear hfin
      go_wp2_with fail
      exact bodyPost_end (v := .tuple #[]) (results_none (by rfl) _ _ _) (by rfl) ⟨rfl, HFIN.out, OG.out⟩
end Go.Proofs.Ytpedajjmbdjfiaa
