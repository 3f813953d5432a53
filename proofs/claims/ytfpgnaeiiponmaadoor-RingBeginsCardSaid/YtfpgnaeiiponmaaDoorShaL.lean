import Derived.Test.YtfpgnaeiiponmaaDoorShaK
namespace Go.Proofs.YtfpgnaeiiponmaaDoor
open Go.RowKit
set_option linter.unusedVariables false

theorem Sl.alloc {w : World} {A : Option Addr} {c : Nat} {l : List Int} (h : Sl w A c l) (o : Obj) : Sl (w.alloc o) A c l := h.below ((Below.refl _ _).alloc (Nat.le_refl _) _)
/-- A slice of slices that was made just now. -/
theorem RdBs.new {w : World} {xs : List (Option Addr × Nat × List Int)} (T : TypeId) (h : ∀ x ∈ xs, Sl w x.1 x.2.1 x.2.2 ∧ Bytes x.2.2) : RdBs (w.alloc (.cells (xs.map BV).toArray T)) (some ⟨w.heap.size, 0, none⟩) xs := by
  refine ⟨⟨by simp, fun hn => ⟨_, rfl, by simp, fun j u hu => ?_⟩⟩, fun x hx => ⟨(h x hx).1.alloc _, (h x hx).2⟩⟩
  have e : (Addr.add ⟨w.heap.size, 0, none⟩ j) = ⟨w.heap.size, j, none⟩ := by
    unfold Addr.add
    by_cases h0 : j = 0 <;> simp [h0]
  rw [e, (Blk.new w T _).cell]
  simpa using hu
theorem flat_one (A : Option Addr) (c : Nat) (l : List Int) : flat [(A, c, l)] = l := by simp [flat]
theorem flat_two (A B : Option Addr) (c d : Nat) (l m : List Int) : flat [(A, c, l), (B, d, m)] = l ++ m := by simp [flat]
theorem splice_pad (k : List Int) (h : k.length ≤ 64) : splice (IV .u8 (List.replicate 64 0)) 0 (IV .u8 k) = IV .u8 (kpad k) := by
  unfold splice kpad
  rw [IV_append, IV_length, Nat.zero_add]
  simp only [IV, List.take_zero, List.nil_append, ← List.map_drop, List.drop_replicate]
theorem zero64 (w : World) : (zeroValue 50).run Tryd.prog w = .ok (.agg (IV .u8 (List.replicate 64 0)).toArray) w := rfl
theorem zero32 (w : World) : (zeroValue 29).run Tryd.prog w = .ok (.agg (IV .u8 (List.replicate 32 0)).toArray) w := rfl

set_option maxRecDepth 100000 in
set_option maxHeartbeats 800000 in
theorem keyBlock_any (A : Option Addr) (c : Nat) (key : List Int) (w : World) (hs : Sl w A c key) (hb : Bytes key) (hS : STab w) (hK : KTab w) (hlen : key.length ≤ 576460752303423488) :
    Calls Tryd.prog 26 #[.slice A key.length c] w fun r w' => r = .returned (.agg (IV .u8 (kblk key)).toArray) ∧ Below w.heap.size w w' := by
  obtain ⟨OUT, hOUT⟩ : ∃ OUT, OUT = kblk key := ⟨_, rfl⟩
  have hsz : (IV .u8 OUT).toArray.size = 64 := by rw [hOUT]; simp [IV, kblk_length]
  have hinfo : (Tryd.prog.info? 50).map (·.size) = some 64 := by kernel_rfl
  have hall : (IV .u8 OUT).toArray.all (·.oneCell') = true := by simp [IV, Value.oneCell']
  have HSZ := Lib.hid hsz
  have HIN := Lib.hid hinfo
  have HAL := Lib.hid hall
  rw [← hOUT]
  have HOUT := Lib.hid hOUT
  have HS := Lib.hid hs
  have HB := Lib.hid hb
  clear hsz hinfo hall hOUT
  obtain ⟨Z64, hZ64⟩ : ∃ Z, Z = (IV .u8 (List.replicate 64 0)).toArray := ⟨_, rfl⟩
  obtain ⟨Z32, hZ32⟩ : ∃ Z, Z = (IV .u8 (List.replicate 32 0)).toArray := ⟨_, rfl⟩
  have hz64 : ∀ w, (zeroValue 50).run Tryd.prog w = .ok (.agg Z64) w := by rw [hZ64]; exact zero64
  have hz32 : ∀ w, (zeroValue 29).run Tryd.prog w = .ok (.agg Z32) w := by rw [hZ32]; exact zero32
  have HZ64 := Lib.hid hZ64
  have HZ32 := Lib.hid hZ32
  have HZS64 := Lib.hid (show Z64.size = 64 by rw [hZ64]; rfl)
  have HZS32 := Lib.hid (show Z32.size = 32 by rw [hZ32]; rfl)
  clear hZ64 hZ32
  by_cases hl : key.length ≤ 64
  · have hks : kblk key = kpad key := by unfold kblk kshort; rw [if_neg (by omega)]
    have HKS := Lib.hid hks
    clear hks hs
    go_enter Tryd.func26, Tryd.ntmps26
    go_wp2_with (first
      | (refine wpList_copy_splice rfl (.tmp 12) (.tmp 13) 22 22 rfl 5 rfl rfl _ _ 64 64 key.length c rfl rfl (w.heap.size + 1) 0 (IV .u8 (List.replicate 64 0)) 50 (by rw [← HZ64.out]; exact blk_second _ _ _ _) (IV .u8 key) (by rw [IV_length]; exact (Nat.min_eq_left hl).symm) (fun hn => ⟨rfl, (by
          obtain ⟨ad, e, _, hc⟩ := (HS.out.rd.alloc _ |>.alloc _).2 (by simpa [IV] using hn)
          exact ⟨ad, e, hc⟩)⟩) (by rw [IV_length, IV_length]; simpa using hl) (IV_oneCell _ _) (w.heap.size + 1) _ (Below.refl _ _) (Nat.le_refl _) ?_
         intro w3 h3 b3
         have H0 := Lib.hid (show Blk w3 w.heap.size 50 Z64 from ((Blk.new w _ Z64).alloc _).below b3 (by omega))
         have H3 := Lib.hid (show Blk w3 (w.heap.size + 1) 50 (IV .u8 OUT).toArray from (by have h := h3.out; rw [splice_pad key hl, ← HKS.out, ← HOUT.out] at h; exact h))
         have BL := Lib.hid (show Below w.heap.size w w3 from ((((Below.refl _ _).alloc (Nat.le_refl _) _).alloc (by simp) _).trans (b3.mono (by omega))))
         clear h3 b3)
      | refine wpList_load_row rfl 50 (.tmp 3) rfl (w.heap.size + 1) rfl 50 (IV .u8 OUT).toArray (0, 0) _ H3.out Tryd.underlying50 rfl (by rw [HSZ.out]; exact HIN.out) ?_
      | refine wpList_store_row rfl 50 (.tmp 2) (.tmp 15) rfl w.heap.size (IV .u8 OUT).toArray rfl rfl 50 _ H0.out (by rw [HSZ.out]; exact HIN.out) (by rw [HSZ.out, HZS64.out]) HAL.out ?_)
    refine bodyPost_ret (v := .agg (IV .u8 OUT).toArray) (results_cell_row rfl _ _ w.heap.size 50 _ (0, 0) _ rfl (Blk.row H0.out _) Tryd.underlying50 rfl (by rw [HSZ.out]; exact HIN.out)) rfl ⟨rfl, ?_⟩
    exact below_setRow BL.out (Nat.le_refl _) _
  · have hks : kblk key = kpad (sha key) := by unfold kblk kshort; rw [if_pos (by omega)]
    obtain ⟨SH, hSH⟩ : ∃ SH, SH = sha key := ⟨_, rfl⟩
    have hsl : SH.length = 32 := by rw [hSH]; exact sha_length _
    rw [← hSH] at hks
    have C0 : ∀ W N, W.heap.size = N → Below w.heap.size w W → Calls Tryd.prog 12 #[.slice (some ⟨N, 0, none⟩) 1 1] (W.alloc (.cells #[.slice A key.length c] 22)) fun r w' => r = .returned (.agg (IV .u8 SH).toArray) ∧ Below (N + 1) (W.alloc (.cells #[.slice A key.length c] 22)) w' := by
      intro W N hN hW
      subst hN
      have bW := hW.trans (((Below.refl W.heap.size W).alloc (Nat.le_refl _) (.cells #[.slice A key.length c] 22)).mono hW.size)
      have h := Sum_any (some ⟨W.heap.size, 0, none⟩) 1 [(A, c, key)] (W.alloc (.cells #[.slice A key.length c] 22)) (RdBs.new (xs := [(A, c, key)]) 22 (by
        intro x hx
        simp only [List.mem_cons, List.not_mem_nil, or_false] at hx
        subst hx
        exact ⟨hs.below hW, hb⟩)) (by simp) (by decide) (hS.below bW) (hK.below bW) (by rw [flat_one]; exact hlen)
      rw [flat_one, ← hSH] at h
      simpa using h
    have C := Lib.hid C0
    have HKS := Lib.hid hks
    have HSL := Lib.hid hsl
    have hsz2 : (IV .u8 SH).toArray.size = 32 := by simp [IV, hsl]
    have hinfo2 : (Tryd.prog.info? 29).map (·.size) = some 32 := by kernel_rfl
    have hall2 : (IV .u8 SH).toArray.all (·.oneCell') = true := by simp [IV, Value.oneCell']
    have HSZ2 := Lib.hid hsz2
    have HIN2 := Lib.hid hinfo2
    have HAL2 := Lib.hid hall2
    clear C0 hks hs hsl hSH hsz2 hinfo2 hall2 hS hK
    go_enter Tryd.func26, Tryd.ntmps26
    go_wp2_with fail
    refine (C.out ((w.alloc (.cells Z64 50)).alloc (.cells Z64 50)) (w.heap.size + 1 + 1) (by simp) (((Below.refl _ _).alloc (Nat.le_refl _) _).alloc (by simp) _)).mono ?_
    rintro e w2 ⟨rfl, b2⟩
    have H0 := Lib.hid (show Blk w2 w.heap.size 50 Z64 from (((Blk.new w _ Z64).alloc _).alloc _).below b2 (by omega))
    have H1 := Lib.hid (show Blk w2 (w.heap.size + 1) 50 Z64 from ((blk_second w _ _ Z64).alloc _).below b2 (by simp))
    have BL := Lib.hid (show Below w.heap.size w w2 from ((((Below.refl _ _).alloc (Nat.le_refl _) _).alloc (by simp) _).alloc (by simp; omega) _).trans (b2.mono (by omega)))
    have lt2 : w.heap.size + 1 < w2.heap.size := H1.out.lt
    clear b2
    go_wp2_with (first
      | (refine wpList_store_row rfl 29 (.tmp 4) (.tmp 10) rfl w2.heap.size (IV .u8 SH).toArray rfl rfl 29 Z32 (Blk.new w2 _ _) (by rw [HSZ2.out]; exact HIN2.out) (by rw [HZS32.out, HSZ2.out]) HAL2.out ?_
         have H4 := Lib.hid (Blk.row (Blk.new w2 29 Z32) (IV .u8 SH).toArray)
         have B4 := Lib.hid (below_setRow ((Below.refl w2.heap.size w2).alloc (Nat.le_refl _) (.cells Z32 29)) (Nat.le_refl _) (IV .u8 SH).toArray)
         generalize (w2.alloc (.cells Z32 29)).setRow w2.heap.size (IV .u8 SH).toArray = w3 at H4 B4 ⊢)
      | (refine wpList_copy_splice rfl (.tmp 12) (.tmp 13) 22 22 rfl 5 rfl rfl _ _ 64 64 32 32 rfl rfl (w.heap.size + 1) 0 (IV .u8 (List.replicate 64 0)) 50 (by rw [← HZ64.out]; exact H1.out.below B4.out lt2) (IV .u8 SH) (by rw [IV_length, HSL.out]; rfl) (fun hn => ⟨rfl, ⟨_, rfl, (by
           intro j v hj
           rw [Addr.add_mid, Nat.zero_add, H4.out.cell]
           simpa using hj)⟩⟩) (by rw [IV_length, IV_length, HSL.out]; decide) (IV_oneCell _ _) (w.heap.size + 1) w3 (Below.refl _ _) (Nat.le_refl _) ?_
         intro w4 h4 b4
         have H05 := Lib.hid (show Blk w4 w.heap.size 50 Z64 from (H0.out.below B4.out (by omega)).below b4 (by omega))
         have H5 := Lib.hid (show Blk w4 (w.heap.size + 1) 50 (IV .u8 OUT).toArray from (by have h := h4.out; rw [splice_pad SH (by rw [HSL.out]; decide), ← HKS.out, ← HOUT.out] at h; exact h))
         have BL5 := Lib.hid (show Below w.heap.size w w4 from (BL.out.trans (B4.out.mono (by omega))).trans (b4.mono (by omega)))
         clear h4 b4)
      | refine wpList_load_row rfl 50 (.tmp 3) rfl (w.heap.size + 1) rfl 50 (IV .u8 OUT).toArray (0, 0) _ H5.out Tryd.underlying50 rfl (by rw [HSZ.out]; exact HIN.out) ?_
      | refine wpList_store_row rfl 50 (.tmp 2) (.tmp 15) rfl w.heap.size (IV .u8 OUT).toArray rfl rfl 50 _ H05.out (by rw [HSZ.out]; exact HIN.out) (by rw [HSZ.out, HZS64.out]) HAL.out ?_)
    refine bodyPost_ret (v := .agg (IV .u8 OUT).toArray) (results_cell_row rfl _ _ w.heap.size 50 _ (0, 0) _ rfl (Blk.row H05.out _) Tryd.underlying50 rfl (by rw [HSZ.out]; exact HIN.out)) rfl ⟨rfl, ?_⟩
    exact below_setRow BL5.out (Nat.le_refl _) _
end Go.Proofs.YtfpgnaeiiponmaaDoor
