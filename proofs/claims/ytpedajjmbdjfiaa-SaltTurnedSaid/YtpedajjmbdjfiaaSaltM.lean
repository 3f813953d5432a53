/-
  SaltTurned: the walk.
-/
import Derived.Test.YtpedajjmbdjfiaaSaltL
namespace Go.Proofs.Ytpedajjmbdjfiaa
open Go.RowKit
set_option linter.unusedVariables false

set_option maxHeartbeats 1600000 in
theorem turned_walk (key nonce : List Int) (A : Option Addr) (c : Nat) (l : List Int) (B : Option Addr) (d : Nat) (b : List Int) (at_ by_ : Int) (w : World) (hk : key.length = 32) (hkb : Bytes key) (hnl : nonce.length = 12) (hnb : Bytes nonce)
    (ha : Rd w A l) (hab : Bytes l) (hac : l.length ≤ c) (ham : c ≤ 9223372036854775807) (han : A = none → c = 0) (hb : Rd w B b) (hbb : Bytes b) (hbc : b.length ≤ d) (hbm : d ≤ 9223372036854775807) (hbn : B = none → d = 0)
    (wa : (Lit.int .u8 at_).wf = true) (wb : (Lit.int .u8 by_).wf = true) :
    Calls Try.prog 7 #[.agg (IV .u8 key).toArray, .agg (IV .u8 nonce).toArray, .slice A l.length c, .slice B b.length d, .int .u8 at_, .int .u8 by_] w fun e w' => e = .returned (.bool true) ∧ Below w.heap.size w w' := by
  have hat := u8_range wa
  have hby := u8_range wb
  clear wa wb
  have AW := Lib.hid (fun W => awake3_any W)
  obtain ⟨KL, hKL⟩ : ∃ KL, KL = IV .u8 key := ⟨_, rfl⟩
  obtain ⟨NL, hNL⟩ : ∃ NL, NL = IV .u8 nonce := ⟨_, rfl⟩
  by_cases hz : by_ = 0
  · subst hz
    rw [← hKL, ← hNL]
    clear hKL hNL
    go_enter Try.func7, Try.ntmps7
    go_wp2_with fail
    refine (AW.out _).mono ?_
    rintro e w1 ⟨rfl, b1⟩
    have B1 := Lib.hid (show Below w.heap.size w w1 from (((Below.refl _ _).alloc (Nat.le_refl _) _).alloc (by simp) _).trans (b1.mono (by simp; omega)))
    clear b1
    go_wp2_with fail
    refine (AW.out _).mono ?_
    rintro e w2 ⟨rfl, b2⟩
    have B2 := Lib.hid (B1.out.trans (b2.mono B1.out.size))
    clear b2
    go_wp2_with fail
    go_ret
    exact ⟨rfl, B2.out⟩
  · have hz2 : (by_ == 0) = false := by simpa using hz
    rw [← hKL, ← hNL]
    have SK := (show KL.length = 32 by rw [hKL]; simp [IV, hk])
    have SN := (show NL.length = 12 by rw [hNL]; simp [IV, hnl])
    have HKL := Lib.hid hKL
    have HNL := Lib.hid hNL
    have I32 := Lib.hid (show (Try.prog.info? 22).map (·.size) = some 32 by kernel_rfl)
    have I12 := Lib.hid (show (Try.prog.info? 23).map (·.size) = some 12 by kernel_rfl)
    have HA := Lib.hid ha
    have HB := Lib.hid hb
    have CU1 := (fun W (hr : Rd W A l) => cut_any A c l 200 W hr (by omega) hac (by omega) (by omega))
    have CU2 := (fun W (hr : Rd W B b) => cut_any B d b 50 W hr (by omega) hbc (by omega) (by omega))
    obtain ⟨l2, hl2⟩ : ∃ l2, l2 = l.take (200 : Int).toNat := ⟨_, rfl⟩
    obtain ⟨bb, hbbq⟩ : ∃ bb, bb = b.take (50 : Int).toNat := ⟨_, rfl⟩
    have HL2B := Lib.hid (show Bytes l2 by rw [hl2]; exact hab.take _)
    have HBBB := Lib.hid (show Bytes bb by rw [hbbq]; exact hbb.take _)
    have hl2l : l2.length ≤ 200 := by rw [hl2, List.length_take]; exact Nat.min_le_left _ _
    have hbbl : bb.length ≤ 50 := by rw [hbbq, List.length_take]; exact Nat.min_le_left _ _
    rw [← hl2] at CU1
    rw [← hbbq] at CU2
    have CU1 := Lib.hid CU1
    have CU2 := Lib.hid CU2
    clear hl2 hbbq
    have HKB := Lib.hid hkb
    have HNB := Lib.hid hnb
    have HAB := Lib.hid hab
    have HBB := Lib.hid hbb
    clear hKL hNL ha hb hkb hnb hab hbb
    go_enter Try.func7, Try.ntmps7
    go_wp2_with fail
    refine (AW.out _).mono ?_
    rintro e w1 ⟨rfl, b1⟩
    have K1 := Lib.hid (show Blk w1 w.heap.size 22 KL.toArray from ((Blk.new w _ _).alloc _).below b1 (by simp; omega))
    have N1 := Lib.hid (show Blk w1 (w.heap.size + 1) 23 NL.toArray from (blk_second w _ _ _).below b1 (by simp))
    have B1 := Lib.hid (show Below w.heap.size w w1 from (((Below.refl _ _).alloc (Nat.le_refl _) _).alloc (by simp) _).trans (b1.mono (by simp; omega)))
    clear b1
    go_wp2_with fail
    obtain ⟨gN, hgN⟩ : ∃ g, g = w.heap.size + 1 := ⟨_, rfl⟩
    rw [← hgN] at N1 ⊢
    have HGN := Lib.hid hgN
    clear hgN
    have KS := Lib.hid (show ∀ w', Below w1.heap.size w1.drew w' → (w'.rangeAt w.heap.size 0 KL ∧ w'.rangeAt gN 0 NL) from fun w' hb =>
      ⟨((show Blk w1.drew w.heap.size _ _ from K1.out).below hb K1.out.lt).range, ((show Blk w1.drew gN _ _ from N1.out).below hb N1.out.lt).range⟩)
    have hu32 := Try.underlying22
    have hu12 := Try.underlying23
    have hi32 : (Try.prog.info? 22).map (·.size) = some KL.length := by rw [SK]; exact I32.out
    have hi12 : (Try.prog.info? 23).map (·.size) = some NL.length := by rw [SN]; exact I12.out
    refine wp_region_held_drew (S := fun w' => w'.rangeAt w.heap.size 0 KL ∧ w'.rangeAt gN 0 NL) (by kernel_rfl) (KS.out _ (Below.refl _ _)) (fun hHeld => ?_)
    refine wpAnyH_take (i := 0) (oi := { dst := some 23, op := .load 22 (.tmp 6), type := 22, pos := "law.go:77", after := #[], guard := none }) rfl (by kernel_rfl) (by kernel_rfl) (by kernel_rfl) (fun _ _ _ h => h) (yieldsIf_load_mid (by rfl) 22 (.tmp 6) rfl w.heap.size 0 rfl KL _ (fun w h => h.1) hu32 rfl hi32) hHeld ?_
    simp only [Act.put, List.setIfInBounds_toArray, List.set_cons_zero, List.set_cons_succ]
    refine wpAnyH_take (i := 1) (oi := { dst := some 24, op := .load 23 (.tmp 7), type := 23, pos := "law.go:77", after := #[], guard := none }) rfl (by kernel_rfl) (by kernel_rfl) (by kernel_rfl) (fun _ _ _ h => h) (yieldsIf_load_mid (by rfl) 23 (.tmp 7) rfl gN 0 rfl NL _ (fun w h => h.2) hu12 rfl hi12) hHeld ?_
    simp only [Act.put, List.setIfInBounds_toArray, List.set_cons_zero, List.set_cons_succ]
    refine wpAnyH_take (i := 2) (oi := { dst := some 25, op := .move (.tmp 2), type := 27, pos := "law.go:77", after := #[], guard := none }) (v := .slice A l.length c) rfl (by kernel_rfl) (by kernel_rfl) (by kernel_rfl) (fun _ _ _ h => h) (Or.inl ⟨by rfl, fun w _ => rfl⟩) hHeld ?_
    simp only [Act.put, List.setIfInBounds_toArray, List.set_cons_zero, List.set_cons_succ]
    refine wpAnyH_take (i := 4) (oi := { dst := some 27, op := .move (.tmp 3), type := 27, pos := "law.go:77", after := #[], guard := none }) (v := .slice B b.length d) rfl (by kernel_rfl) (by kernel_rfl) (by kernel_rfl) (fun _ _ _ h => h) (Or.inl ⟨by rfl, fun w _ => rfl⟩) hHeld ?_
    simp only [Act.put, List.setIfInBounds_toArray, List.set_cons_zero, List.set_cons_succ]
    refine wpAnyH_ready (rs := [3]) (by kernel_rfl) (by simp) ?_
    refine AllReadyH.cons rfl (fun K hK => ?_) AllReadyH.nil
    go_simp
    refine (CU1.out w1.drew (HA.out.below B1.out.drew)).mono ?_
    rintro e w2 ⟨A2, c2, rfl, o2, b2⟩
    refine hK.out _ _ (KS.out _ b2) (fun hHeld2 => ?_)
    clear hK K
    refine wpAnyH_ready (rs := [5]) (by kernel_rfl) (by simp) ?_
    refine AllReadyH.cons rfl (fun K hK => ?_) AllReadyH.nil
    go_simp
    refine (CU2.out w2 ((HB.out.below B1.out.drew).below b2)).mono ?_
    rintro e w3 ⟨A3, c3, rfl, o3, b3⟩
    have b23 : Below w1.heap.size w1.drew w3 := b2.trans (b3.mono b2.size)
    refine hK.out _ _ (KS.out _ b23) (fun hHeld3 => ?_)
    clear hK K
    have k2 := o2.cap
    have k3 := o3.cap
    unfold maxLen at k2 k3
    have CC := Close_any key nonce l2 bb A2 A3 c2 c3 w3 hk HKB.out hnl HNB.out ((Rd.of_own o2).below b3) HL2B.out k2.1 (by omega) (Rd.of_own o3) HBBB.out k3.1 (by omega) (by omega)
    rw [← HKL.out, ← HNL.out] at CC
    have CC' := Lib.hid CC
    clear CC
    refine wpAnyH_ready (rs := [6]) (by kernel_rfl) (by simp) ?_
    refine AllReadyH.cons rfl (fun K hK => ?_) AllReadyH.nil
    go_simp
    refine CC'.out.mono ?_
    rintro e w4 ⟨A4, c4, rfl, o4, b4⟩
    have b34 : Below w1.heap.size w1.drew w4 := b23.trans (b4.mono b23.size)
    refine hK.out _ _ (KS.out _ b34) (fun hHeld4 => ?_)
    clear hK K
    refine wpAnyH_take (i := 7) (oi := { dst := some 13, op := .assign (.tmp 29), type := 27, pos := "law.go:77", after := #[{ on := 6, ground := .data }, { on := 6, ground := .chain }, { on := 0, ground := .phase }, { on := 1, ground := .phase }, { on := 2, ground := .phase }, { on := 3, ground := .phase }, { on := 4, ground := .phase }, { on := 5, ground := .phase }, { on := 6, ground := .phase }], guard := none }) (v := .slice A4 (l2.length + 16) c4) rfl (by kernel_rfl) (by kernel_rfl) (by kernel_rfl) (fun _ _ _ h => h) (Or.inl ⟨by rfl, fun w _ => rfl⟩) hHeld4 ?_
    simp only [Act.put, List.setIfInBounds_toArray, List.set_cons_zero, List.set_cons_succ]
    refine wpAnyH_done (by kernel_rfl) ?_ _
    obtain ⟨P, hP⟩ : ∃ P, P = closeL key nonce l2 bb := ⟨_, rfl⟩
    rw [← hP] at o4
    have hPl : P.length = l2.length + 16 := by rw [hP, closeL_length]
    have HP := Lib.hid hP
    obtain ⟨j, hj⟩ : ∃ j : Nat, (l2.length : Int) + 16 - 1 - at_ % 16 = (j : Int) := ⟨((l2.length : Int) + 16 - 1 - at_ % 16).toNat, by omega⟩
    have hj1 : l2.length ≤ j := by omega
    have hj2 : j < l2.length + 16 := by omega
    obtain ⟨y, hy⟩ : ∃ y, P[j]? = some y := ⟨_, List.getElem?_eq_getElem (by omega)⟩
    obtain ⟨g4, rfl, hg4, hg4l, hcell, hfr, hset⟩ := o4.at_ hy
    have B4 := Lib.hid (B1.out.drew.trans (b34.mono B1.out.size))
    have K4 := Lib.hid ((show Blk w1.drew w.heap.size _ _ from K1.out).below b34 K1.out.lt)
    have N4 := Lib.hid ((show Blk w1.drew gN _ _ from N1.out).below b34 N1.out.lt)
    have HW := Lib.hid (show w.heap.size ≤ w3.heap.size by have h1 := b23.size; have h2 := B1.out.size; have h3 : w1.heap.size ≤ w3.heap.size := h1; omega)
    have HY := Lib.hid hy
    have O4 := Lib.hid o4
    have HST := Lib.hid hset
    have hgN4 : g4 ≠ gN := by have h1 := N1.out.lt; have h2 : w1.heap.size ≤ w3.heap.size := b23.size; omega
    have hgK4 : g4 ≠ w.heap.size := by have h1 := K1.out.lt; have h2 : w1.heap.size ≤ w3.heap.size := b23.size; omega
    clear hP hy o4 hset b34 b23 b2 b3 b4 o2 o3 hHeld hHeld2 hHeld3 hHeld4 KS CC' k2 k3
    obtain ⟨y2, hy2⟩ : ∃ y2, bits .xor .u8 y by_ = y2 := ⟨_, rfl⟩
    have hne : sealT key nonce ((P.set j y2).take l2.length) bb ≠ (P.set j y2).drop l2.length := by
      have hEl : (encE key nonce l2).length = l2.length := encE_length _ _ _
      have e1 : P.set j y2 = encE key nonce l2 ++ (sealT key nonce (encE key nonce l2) bb).set (j - l2.length) y2 := by
        rw [HP.out, closeL, List.set_append_right _ _ (by omega), hEl]
      have e2 : (sealT key nonce (encE key nonce l2) bb)[j - l2.length]? = some y := by
        have h := HY.out
        rw [HP.out, closeL, List.getElem?_append_right (by omega), hEl] at h
        exact h
      rw [e1, List.take_left' hEl, List.drop_left' hEl, ← hy2]
      exact turned_ne e2 ((sealT_bytes _ _ _ _).at e2) (by omega)
    have HNE := Lib.hid hne
    have hPb : Bytes P := by rw [HP.out, closeL]; exact (encE_bytes HL2B.out).append (sealT_bytes _ _ _ _)
    have hyb := hPb.at HY.out
    have hPb2 : Bytes (P.set j y2) := fun z hz => by
      rcases List.mem_or_eq_of_mem_set hz with hz | rfl
      · exact hPb z hz
      · rw [← hy2]; exact xor8 hyb (by omega)
    have HPB := Lib.hid hPb2
    clear hne hPb hyb hPb2
    go_wp2_with fail
    have O5 := Lib.hid (HST.out y2)
    have K5 := Lib.hid (K4.out.far (p := ⟨g4, j, none⟩) (by simpa using (Ne.symm hgK4)) (.int .u8 y2))
    have N5 := Lib.hid (N4.out.far (p := ⟨g4, j, none⟩) (by simpa using (Ne.symm hgN4)) (.int .u8 y2))
    have B5 := Lib.hid (B4.out.setCell (p := ⟨g4, j, none⟩) (by have := HW.out; show w.heap.size ≤ g4; omega) (.int .u8 y2))
    generalize w4.setCell ⟨g4, j, none⟩ (.int .u8 y2) = w5 at O5 K5 N5 B5 ⊢
    have KS := Lib.hid (show ∀ w', Below w5.heap.size w5.drew w' → (w'.rangeAt w.heap.size 0 KL ∧ w'.rangeAt gN 0 NL) from fun w' hb =>
      ⟨((show Blk w5.drew w.heap.size _ _ from K5.out).below hb K5.out.lt).range, ((show Blk w5.drew gN _ _ from N5.out).below hb N5.out.lt).range⟩)
    have cap5 : l2.length + 16 ≤ c4 ∧ c4 ≤ 9223372036854775807 := by have h := O5.out.cap; unfold maxLen at h; rw [List.length_set, hPl] at h; omega
    clear HST hcell hfr K4 N4 B4 O4
    refine wp_region_held_drew (S := fun w' => w'.rangeAt w.heap.size 0 KL ∧ w'.rangeAt gN 0 NL) (by kernel_rfl) (KS.out _ (Below.refl _ _)) (fun hHeld => ?_)
    refine wpAnyH_take (i := 0) (oi := { dst := some 44, op := .load 22 (.tmp 6), type := 22, pos := "law.go:79", after := #[], guard := none }) rfl (by kernel_rfl) (by kernel_rfl) (by kernel_rfl) (fun _ _ _ h => h) (yieldsIf_load_mid (by rfl) 22 (.tmp 6) rfl w.heap.size 0 rfl KL _ (fun w h => h.1) hu32 rfl hi32) hHeld ?_
    simp only [Act.put, List.setIfInBounds_toArray, List.set_cons_zero, List.set_cons_succ]
    refine wpAnyH_take (i := 1) (oi := { dst := some 45, op := .load 23 (.tmp 7), type := 23, pos := "law.go:79", after := #[], guard := none }) rfl (by kernel_rfl) (by kernel_rfl) (by kernel_rfl) (fun _ _ _ h => h) (yieldsIf_load_mid (by rfl) 23 (.tmp 7) rfl gN 0 rfl NL _ (fun w h => h.2) hu12 rfl hi12) hHeld ?_
    simp only [Act.put, List.setIfInBounds_toArray, List.set_cons_zero, List.set_cons_succ]
    refine wpAnyH_take (i := 2) (oi := { dst := some 46, op := .move (.tmp 13), type := 27, pos := "law.go:79", after := #[], guard := none }) (v := .slice (some ⟨g4, 0, none⟩) (l2.length + 16) c4) rfl (by kernel_rfl) (by kernel_rfl) (by kernel_rfl) (fun _ _ _ h => h) (Or.inl ⟨by rfl, fun w _ => rfl⟩) hHeld ?_
    simp only [Act.put, List.setIfInBounds_toArray, List.set_cons_zero, List.set_cons_succ]
    refine wpAnyH_take (i := 3) (oi := { dst := some 47, op := .move (.tmp 3), type := 27, pos := "law.go:79", after := #[], guard := none }) (v := .slice B b.length d) rfl (by kernel_rfl) (by kernel_rfl) (by kernel_rfl) (fun _ _ _ h => h) (Or.inl ⟨by rfl, fun w _ => rfl⟩) hHeld ?_
    simp only [Act.put, List.setIfInBounds_toArray, List.set_cons_zero, List.set_cons_succ]
    refine wpAnyH_ready (rs := [4]) (by kernel_rfl) (by simp) ?_
    refine AllReadyH.cons rfl (fun K hK => ?_) AllReadyH.nil
    go_simp
    refine (CU2.out w5.drew (HB.out.below B5.out.drew)).mono ?_
    rintro e w6 ⟨A6, c6, rfl, o6, b6⟩
    refine hK.out _ _ (KS.out _ b6) (fun hHeld6 => ?_)
    clear hK K
    have k6 := o6.cap
    unfold maxLen at k6
    have CO := Open_seal key nonce (P.set j y2) bb l2.length (some ⟨g4, 0, none⟩) A6 c4 c6 w6 hk HKB.out hnl HNB.out ((Rd.of_own (show Own w5.drew _ _ _ _ from O5.out)).below b6) HPB.out (by rw [List.length_set, hPl]; exact cap5.1) cap5.2 (Rd.of_own o6) HBBB.out k6.1 (by omega) (by rw [List.length_set, hPl]) HNE.out
    rw [← HKL.out, ← HNL.out, List.length_set, hPl] at CO
    have CO' := Lib.hid CO
    clear CO
    refine wpAnyH_ready (rs := [5]) (by kernel_rfl) (by simp) ?_
    refine AllReadyH.cons rfl (fun K hK => ?_) AllReadyH.nil
    go_simp
    refine CO'.out.mono ?_
    rintro e w7 ⟨rfl, b7⟩
    have b67 : Below w5.heap.size w5.drew w7 := b6.trans (b7.mono b6.size)
    refine hK.out _ _ (KS.out _ b67) (fun hHeld7 => ?_)
    clear hK K
    refine wpAnyH_take (i := 6) (oi := { dst := some 43, op := .move (.tmp 49), type := 29, pos := "law.go:79", after := #[{ on := 5, ground := .data }], guard := none }) (v := .tuple #[.slice none 0 0, .int .i64 5]) rfl (by kernel_rfl) (by kernel_rfl) (by kernel_rfl) (fun _ _ _ h => h) (Or.inl ⟨by rfl, fun w _ => rfl⟩) hHeld7 ?_
    simp only [Act.put, List.setIfInBounds_toArray, List.set_cons_zero, List.set_cons_succ]
    refine wpAnyH_take (i := 7) (oi := { dst := some 50, op := .extract (.tmp 43) 0, type := 27, pos := "law.go:79", after := #[{ on := 6, ground := .data }], guard := none }) (v := .slice none 0 0) rfl (by kernel_rfl) (by kernel_rfl) (by kernel_rfl) (fun _ _ _ h => h) (Or.inl ⟨by rfl, fun w _ => rfl⟩) hHeld7 ?_
    simp only [Act.put, List.setIfInBounds_toArray, List.set_cons_zero, List.set_cons_succ]
    refine wpAnyH_take (i := 8) (oi := { dst := some 51, op := .extract (.tmp 43) 1, type := 28, pos := "law.go:79", after := #[{ on := 6, ground := .data }, { on := 9, ground := .gcOnly .lateStores }], guard := none }) (v := .int .i64 5) rfl (by kernel_rfl) (by kernel_rfl) (by kernel_rfl) (fun _ _ _ h => h) (Or.inl ⟨by rfl, fun w _ => rfl⟩) hHeld7 ?_
    simp only [Act.put, List.setIfInBounds_toArray, List.set_cons_zero, List.set_cons_succ]
    refine wpAnyH_take (i := 9) (oi := { dst := some 14, op := .assign (.tmp 50), type := 27, pos := "law.go:79", after := #[{ on := 7, ground := .data }, { on := 5, ground := .chain }, { on := 0, ground := .phase }, { on := 1, ground := .phase }, { on := 2, ground := .phase }, { on := 3, ground := .phase }, { on := 4, ground := .phase }, { on := 5, ground := .phase }, { on := 6, ground := .phase }, { on := 7, ground := .phase }, { on := 8, ground := .textOnly .lateStores }], guard := none }) (v := .slice none 0 0) rfl (by kernel_rfl) (by kernel_rfl) (by kernel_rfl) (fun _ _ _ h => h) (Or.inl ⟨by rfl, fun w _ => rfl⟩) hHeld7 ?_
    simp only [Act.put, List.setIfInBounds_toArray, List.set_cons_zero, List.set_cons_succ]
    refine wpAnyH_take (i := 10) (oi := { dst := some 15, op := .assign (.tmp 51), type := 28, pos := "law.go:79", after := #[{ on := 8, ground := .data }, { on := 9, ground := .chain }, { on := 0, ground := .phase }, { on := 1, ground := .phase }, { on := 2, ground := .phase }, { on := 3, ground := .phase }, { on := 4, ground := .phase }, { on := 5, ground := .phase }, { on := 6, ground := .phase }, { on := 7, ground := .phase }, { on := 8, ground := .phase }, { on := 9, ground := .phase }], guard := none }) (v := .int .i64 5) rfl (by kernel_rfl) (by kernel_rfl) (by kernel_rfl) (fun _ _ _ h => h) (Or.inl ⟨by rfl, fun w _ => rfl⟩) hHeld7 ?_
    simp only [Act.put, List.setIfInBounds_toArray, List.set_cons_zero, List.set_cons_succ]
    refine wpAnyH_done (by kernel_rfl) ?_ _
    have B7 := Lib.hid (B5.out.drew.trans (b67.mono B5.out.size))
    clear b67 b6 b7 o6 hHeld hHeld6 hHeld7 KS CO' k6
    go_wp2_with fail
    go_ret
    exact ⟨rfl, B7.out⟩
end Go.Proofs.Ytpedajjmbdjfiaa
