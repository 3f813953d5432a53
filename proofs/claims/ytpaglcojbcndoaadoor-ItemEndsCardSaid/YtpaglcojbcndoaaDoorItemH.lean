/-
  item.Begin and item.Next of a group's stream; the law's first question (made by mkItemH.py).
-/
import Derived.Test.YtpaglcojbcndoaaDoorItemG
import Derived.Deep.DeepCutAuto
import Derived.Deep.RegionHeld
import Derived.Deep.MidRow
namespace Go.Proofs.YtpaglcojbcndoaaDoor
open Go.RowKit
set_option linter.unusedVariables false
set_option linter.unusedSimpArgs false
theorem encI_of {l : List Int} (h : ∀ x ∈ l, InI x) : encI l = true := List.all_eq_true.2 fun x hx => by have := h x hx; unfold InI at this; simp; omega
set_option maxRecDepth 100000 in
set_option maxHeartbeats 3200000 in
theorem Begin_g (id grp prio : Int) (w : World) (ht : Tab w) (h1 : InI id) (h2 : InI grp) :
    Calls Tryd.prog 22 #[.agg #[.bool false, .int .u64 id, .int .u64 grp, .int .u8 prio]] w fun r w' => ∃ A' c', r = .returned (.tuple #[.slice A' (iencs [16, id, grp] ++ [prio]).length c', .int .i64 0]) ∧ Own w' w.heap.size A' c' (iencs [16, id, grp] ++ [prio]) ∧ Below w.heap.size w w' := by
  obtain ⟨P9, hP9⟩ : ∃ P9 : World → Ending → Prop, P9 = fun w' r => ∃ A' c', r = .returned (.tuple #[.slice A' (iencs [16, id, grp] ++ [prio]).length c', .int .i64 0]) ∧ Own w' w.heap.size A' c' (iencs [16, id, grp] ++ [prio]) ∧ Below w.heap.size w w' := ⟨_, rfl⟩
  have HP := Lib.hid hP9
  refine Calls.mono (R := fun r w' => P9 w' r) ?_ (fun r w' h => by rw [hP9] at h; exact h)
  obtain ⟨NB, hNB⟩ : ∃ NB, NB = iencs [16, id, grp] := ⟨_, rfl⟩
  obtain ⟨Y, hY⟩ : ∃ Y, Y = NB ++ [prio] := ⟨_, rfl⟩
  have HYE := Lib.hid (show Y = iencs [16, id, grp] ++ [prio] by rw [hY, hNB])
  have HNB := Lib.hid hNB
  have HY := Lib.hid hY
  have HIN := Lib.hid (show ∀ x ∈ [16, id, grp], InI x from fun x hx => by
    simp only [List.mem_cons, List.not_mem_nil, or_false] at hx
    rcases hx with rfl | rfl | rfl
    · exact ⟨by decide, by decide⟩
    · exact h1
    · exact h2)
  have HNL := Lib.hid (show NB.length ≤ 40 by rw [hNB]; have := iencs_len HIN.out; simp only [List.length_cons, List.length_nil] at this; omega)
  obtain ⟨W, hW⟩ : ∃ W, W = w.alloc (.cells #[.bool false, .int .u64 id, .int .u64 grp, .int .u8 prio] 53) := ⟨_, rfl⟩
  have bw : Below w.heap.size w W := by rw [hW]; exact (Below.refl _ _).alloc (Nat.le_refl _) _
  have kw : Blk W w.heap.size 53 #[.bool false, .int .u64 id, .int .u64 grp, .int .u8 prio] := by rw [hW]; exact Blk.new _ _ _
  obtain ⟨gm, hgm⟩ : ∃ g, g = w.heap.size := ⟨_, rfl⟩
  have HT := Lib.hid (ht.below bw)
  have BW := Lib.hid bw
  have HW := Lib.hid hW
  have HG := Lib.hid hgm
  rw [← hgm] at kw
  have ST0 := Lib.hid (show Stay W W gm 53 #[.bool false, .int .u64 id, .int .u64 grp, .int .u8 prio] from ⟨kw, Below.refl _ _, kw.lt⟩)
  have ba : Below W.heap.size W (W.alloc (.cells #[.int .u64 id, .int .u64 grp] 22)) := (Below.refl _ _).alloc (Nat.le_refl _) _
  have EN := encodableI_any (some ⟨W.heap.size, 0, none⟩) 2 [id, grp] _ (rdlitI W [id, grp] (Nat.le_of_ble_eq_true rfl)) (Nat.le_of_ble_eq_true rfl)
  rw [encI_of (l := [id, grp]) (fun x hx => HIN.out x (List.mem_cons_of_mem _ hx))] at EN
  have EN2 := Lib.hid EN
  have ST1 := Lib.hid (ST0.out.below ba)
  have k0 := kw.cell 0
  have k1 := kw.cell 1
  have k2 := kw.cell 2
  have zk := kw.lt
  simp only [List.getElem?_toArray, List.getElem?_cons_zero, List.getElem?_cons_succ] at k0 k1 k2
  clear hNB hY ht bw hW kw hgm ba EN hP9
  go_enter Tryd.func22, Tryd.ntmps22
  go_upto_region 1 with (fail)
  rw [← HW.out, ← HG.out]
  go_wp2_with fail
  refine EN2.out.mono ?_
  rintro e w2 ⟨rfl, hw2⟩
  obtain ⟨W2, hW2⟩ : ∃ W2, W2 = W.alloc (.cells #[.int .u64 id, .int .u64 grp] 22) := ⟨_, rfl⟩
  have ST2 := Lib.hid (show Stay W W2 gm 53 #[.bool false, .int .u64 id, .int .u64 grp, .int .u8 prio] by rw [hW2]; exact ST1.out)
  rw [← hw2]
  have e2 : W.alloc (.cells (IV .u64 [id, grp]).toArray 22) = W2 := hW2.symm
  rw [e2]
  clear hw2 e2 hW2 EN2 ST1 k0 k1 k2 zk
  have k0 := ST2.out.box.cell 0
  have zk := ST2.out.box.lt
  simp only [List.getElem?_toArray, List.getElem?_cons_zero, List.getElem?_cons_succ] at k0
  go_wp2_with fail
  refine wp_region_held_drew (S := fun w' => Blk w' gm 53 #[.bool false, .int .u64 id, .int .u64 grp, .int .u8 prio]) (by kernel_rfl) ST2.out.box.drew (fun s0 => ?_)
  have ST3 := Lib.hid (ST2.out.below (Below.refl _ _).drew)
  generalize W2.drew = u0 at s0 ST3 ⊢
  have ST0 := ST3
  clear ST3 ST2 k0 zk
  refine wpAnyH_take (i := 0) (oi := ⟨_, _, _, _, _, _⟩) (v := .pointer (some ⟨gm, 1, none⟩)) rfl (by kernel_rfl) (by kernel_rfl) (by kernel_rfl) (fun _ _ _ h => h) (Or.inl ⟨by rfl, fun w' hS => by go_simp⟩) s0 ?_
  simp only [Act.put, List.setIfInBounds_toArray, List.set_cons_zero, List.set_cons_succ]
  refine wpAnyH_take (i := 1) (oi := ⟨_, _, _, _, _, _⟩) (v := .int .u64 id) rfl (by kernel_rfl) (by kernel_rfl) (by kernel_rfl) (fun _ _ _ h => h) (Or.inl ⟨by rfl, fun w' hS => by have c0 := (hS).cell 1; simp only [List.getElem?_toArray, List.getElem?_cons_zero, List.getElem?_cons_succ] at c0; go_simp⟩) s0 ?_
  simp only [Act.put, List.setIfInBounds_toArray, List.set_cons_zero, List.set_cons_succ]
  refine wpAnyH_take (i := 2) (oi := ⟨_, _, _, _, _, _⟩) (v := .pointer (some ⟨gm, 2, none⟩)) rfl (by kernel_rfl) (by kernel_rfl) (by kernel_rfl) (fun _ _ _ h => h) (Or.inl ⟨by rfl, fun w' hS => by go_simp⟩) s0 ?_
  simp only [Act.put, List.setIfInBounds_toArray, List.set_cons_zero, List.set_cons_succ]
  refine wpAnyH_take (i := 3) (oi := ⟨_, _, _, _, _, _⟩) (v := .int .u64 grp) rfl (by kernel_rfl) (by kernel_rfl) (by kernel_rfl) (fun _ _ _ h => h) (Or.inl ⟨by rfl, fun w' hS => by have c0 := (hS).cell 2; simp only [List.getElem?_toArray, List.getElem?_cons_zero, List.getElem?_cons_succ] at c0; go_simp⟩) s0 ?_
  simp only [Act.put, List.setIfInBounds_toArray, List.set_cons_zero, List.set_cons_succ]
  refine wpAnyH_take (i := 6) (oi := ⟨_, _, _, _, _, _⟩) (v := .pointer (some ⟨gm, 3, none⟩)) rfl (by kernel_rfl) (by kernel_rfl) (by kernel_rfl) (fun _ _ _ h => h) (Or.inl ⟨by rfl, fun w' hS => by go_simp⟩) s0 ?_
  simp only [Act.put, List.setIfInBounds_toArray, List.set_cons_zero, List.set_cons_succ]
  refine wpAnyH_take (i := 7) (oi := ⟨_, _, _, _, _, _⟩) (v := .int .u8 prio) rfl (by kernel_rfl) (by kernel_rfl) (by kernel_rfl) (fun _ _ _ h => h) (Or.inl ⟨by rfl, fun w' hS => by have c0 := (hS).cell 3; simp only [List.getElem?_toArray, List.getElem?_cons_zero, List.getElem?_cons_succ] at c0; go_simp⟩) s0 ?_
  simp only [Act.put, List.setIfInBounds_toArray, List.set_cons_zero, List.set_cons_succ]
  refine wpAnyH_ready (rs := [4, 8]) (by kernel_rfl) (by simp) ?_
  refine AllReadyH.cons rfl (fun K hK => ?_) (AllReadyH.cons rfl (fun K hK => ?_) AllReadyH.nil)
  · go_simp
    have hb : Below u0.heap.size u0 (u0.alloc (.cells #[.int .u64 16, .int .u64 id, .int .u64 grp] 22)) := (Below.refl _ _).alloc (Nat.le_refl _) _
    refine hK.out _ _ (ST0.out.below hb).box (fun s1 => ?_)
    clear hK K
    obtain ⟨u1, hv⟩ : ∃ v, v = u0.alloc (.cells #[.int .u64 16, .int .u64 id, .int .u64 grp] 22) := ⟨_, rfl⟩
    obtain ⟨gA, hg⟩ : ∃ g, g = u0.heap.size := ⟨_, rfl⟩
    have RA1 := Lib.hid (show RdI .u64 u1 (some ⟨gA, 0, none⟩) [16, id, grp] by rw [hv, hg]; exact rdlitI u0 [16, id, grp] (Nat.le_of_ble_eq_true rfl))
    rw [← hv] at hb s1
    have ST1 := Lib.hid (ST0.out.below hb)
    rw [← hv, ← hg]
    clear hv hg hb s0
    refine wpAnyH_ready (rs := [5, 8]) (by kernel_rfl) (by simp) ?_
    refine AllReadyH.cons rfl (fun K hK => ?_) (AllReadyH.cons rfl (fun K hK => ?_) AllReadyH.nil)
    · go_simp
      refine (numbers_any (some ⟨gA, 0, none⟩) 3 [16, id, grp] u1 (HT.out.below ST1.out.bel) RA1.out (Nat.le_of_ble_eq_true rfl) HIN.out).mono ?_
      rintro e u2 ⟨nA, nc, rfl, oN, hb⟩
      rw [show iencs [16, id, grp] = NB from HNB.out.symm] at oN ⊢
      refine hK.out _ _ (ST1.out.below hb).box (fun s2 => ?_)
      clear hK K
      have ON2 := Lib.hid (Own.base_leI oN ST1.out.bel.size)
      have ST2 := Lib.hid (ST1.out.below hb)
      have RA2 := Lib.hid (RdI.below RA1.out hb)
      clear oN hb s1
      refine wpAnyH_ready (rs := [8]) (by kernel_rfl) (by simp) ?_
      refine AllReadyH.cons rfl (fun K hK => ?_) AllReadyH.nil
      go_simp
      have hb : Below u2.heap.size u2 (u2.alloc (.cells #[.int .u8 prio] 5)) := (Below.refl _ _).alloc (Nat.le_refl _) _
      refine hK.out _ _ (ST2.out.below hb).box (fun s3 => ?_)
      clear hK K
      obtain ⟨u3, hv⟩ : ∃ v, v = u2.alloc (.cells #[.int .u8 prio] 5) := ⟨_, rfl⟩
      obtain ⟨gB, hg⟩ : ∃ g, g = u2.heap.size := ⟨_, rfl⟩
      have RB3 := Lib.hid (show Rd u3 (some ⟨gB, 0, none⟩) [prio] by rw [hv, hg]; exact Rd.of_own (own_lit1I u2 prio (Nat.le_refl _)))
      rw [← hv] at hb s3
      have ST3 := Lib.hid (ST2.out.below hb)
      have ON3 := Lib.hid (Own.below ON2.out hb)
      rw [← hv, ← hg]
      clear hv hg hb s2
      refine wpAnyH_ready (rs := [9]) (by kernel_rfl) (by simp) ?_
      refine AllReadyH.cons rfl (fun K hK => ?_) AllReadyH.nil
      refine step_appI rfl (.tmp 36) (.tmp 39) rfl W.heap.size (l := NB) (news := [prio]) Y HY.out rfl rfl ON3.out RB3.out (by have := HNL.out; simp; omega) ST3.out.bel.size ?_
      intro pA pc u9 o9 b9
      have ST9 := Lib.hid (ST3.out.app b9)
      have O9 := Lib.hid o9
      refine hK.out _ _ ST9.out.box (fun s9 => ?_)
      clear hK K o9 b9
      simp only [List.getElem_toArray, List.getElem_cons_succ, List.getElem_cons_zero, Act.put, List.setIfInBounds_toArray, List.set_cons_succ, List.set_cons_zero]
      refine wpAnyH_take (i := 10) (oi := ⟨_, _, _, _, _, _⟩) (v := .slice pA Y.length pc) rfl (by kernel_rfl) (by kernel_rfl) (by kernel_rfl) (fun _ _ _ h => h) (Or.inl ⟨by rfl, fun w' hS => by go_simp⟩) s9 ?_
      simp only [Act.put, List.setIfInBounds_toArray, List.set_cons_zero, List.set_cons_succ]
      refine wpAnyH_take (i := 11) (oi := ⟨_, _, _, _, _, _⟩) (v := .int .i64 0) rfl (by kernel_rfl) (by kernel_rfl) (by kernel_rfl) (fun _ _ _ h => h) (Or.inl ⟨by rfl, fun w' hS => by go_simp⟩) s9 ?_
      simp only [Act.put, List.setIfInBounds_toArray, List.set_cons_zero, List.set_cons_succ]
      refine wpAnyH_done (by kernel_rfl) ?_ _
      go_wp2_with fail
      show P9 _ _
      rw [HP.out]
      exact ⟨pA, pc, by rw [← HYE.out]; rfl, by rw [← HYE.out]; exact Own.base_leI O9.out BW.out.size, BW.out.trans (ST9.out.bel.mono BW.out.size)⟩
    · go_simp
      have hb : Below u1.heap.size u1 (u1.alloc (.cells #[.int .u8 prio] 5)) := (Below.refl _ _).alloc (Nat.le_refl _) _
      refine hK.out _ _ (ST1.out.below hb).box (fun s2 => ?_)
      clear hK K
      obtain ⟨u2, hv⟩ : ∃ v, v = u1.alloc (.cells #[.int .u8 prio] 5) := ⟨_, rfl⟩
      obtain ⟨gB, hg⟩ : ∃ g, g = u1.heap.size := ⟨_, rfl⟩
      have RB2 := Lib.hid (show Rd u2 (some ⟨gB, 0, none⟩) [prio] by rw [hv, hg]; exact Rd.of_own (own_lit1I u1 prio (Nat.le_refl _)))
      rw [← hv] at hb s2
      have ST2 := Lib.hid (ST1.out.below hb)
      have RA2 := Lib.hid (RdI.below RA1.out hb)
      rw [← hv, ← hg]
      clear hv hg hb s1
      refine wpAnyH_ready (rs := [5]) (by kernel_rfl) (by simp) ?_
      refine AllReadyH.cons rfl (fun K hK => ?_) AllReadyH.nil
      go_simp
      refine (numbers_any (some ⟨gA, 0, none⟩) 3 [16, id, grp] u2 (HT.out.below ST2.out.bel) RA2.out (Nat.le_of_ble_eq_true rfl) HIN.out).mono ?_
      rintro e u3 ⟨nA, nc, rfl, oN, hb⟩
      rw [show iencs [16, id, grp] = NB from HNB.out.symm] at oN ⊢
      refine hK.out _ _ (ST2.out.below hb).box (fun s3 => ?_)
      clear hK K
      have ON3 := Lib.hid (Own.base_leI oN ST2.out.bel.size)
      have ST3 := Lib.hid (ST2.out.below hb)
      have RA3 := Lib.hid (RdI.below RA2.out hb)
      have RB3 := Lib.hid (Rd.below RB2.out hb)
      clear oN hb s2
      refine wpAnyH_ready (rs := [9]) (by kernel_rfl) (by simp) ?_
      refine AllReadyH.cons rfl (fun K hK => ?_) AllReadyH.nil
      refine step_appI rfl (.tmp 36) (.tmp 39) rfl W.heap.size (l := NB) (news := [prio]) Y HY.out rfl rfl ON3.out RB3.out (by have := HNL.out; simp; omega) ST3.out.bel.size ?_
      intro pA pc u9 o9 b9
      have ST9 := Lib.hid (ST3.out.app b9)
      have O9 := Lib.hid o9
      refine hK.out _ _ ST9.out.box (fun s9 => ?_)
      clear hK K o9 b9
      simp only [List.getElem_toArray, List.getElem_cons_succ, List.getElem_cons_zero, Act.put, List.setIfInBounds_toArray, List.set_cons_succ, List.set_cons_zero]
      refine wpAnyH_take (i := 10) (oi := ⟨_, _, _, _, _, _⟩) (v := .slice pA Y.length pc) rfl (by kernel_rfl) (by kernel_rfl) (by kernel_rfl) (fun _ _ _ h => h) (Or.inl ⟨by rfl, fun w' hS => by go_simp⟩) s9 ?_
      simp only [Act.put, List.setIfInBounds_toArray, List.set_cons_zero, List.set_cons_succ]
      refine wpAnyH_take (i := 11) (oi := ⟨_, _, _, _, _, _⟩) (v := .int .i64 0) rfl (by kernel_rfl) (by kernel_rfl) (by kernel_rfl) (fun _ _ _ h => h) (Or.inl ⟨by rfl, fun w' hS => by go_simp⟩) s9 ?_
      simp only [Act.put, List.setIfInBounds_toArray, List.set_cons_zero, List.set_cons_succ]
      refine wpAnyH_done (by kernel_rfl) ?_ _
      go_wp2_with fail
      show P9 _ _
      rw [HP.out]
      exact ⟨pA, pc, by rw [← HYE.out]; rfl, by rw [← HYE.out]; exact Own.base_leI O9.out BW.out.size, BW.out.trans (ST9.out.bel.mono BW.out.size)⟩
  · go_simp
    have hb : Below u0.heap.size u0 (u0.alloc (.cells #[.int .u8 prio] 5)) := (Below.refl _ _).alloc (Nat.le_refl _) _
    refine hK.out _ _ (ST0.out.below hb).box (fun s1 => ?_)
    clear hK K
    obtain ⟨u1, hv⟩ : ∃ v, v = u0.alloc (.cells #[.int .u8 prio] 5) := ⟨_, rfl⟩
    obtain ⟨gB, hg⟩ : ∃ g, g = u0.heap.size := ⟨_, rfl⟩
    have RB1 := Lib.hid (show Rd u1 (some ⟨gB, 0, none⟩) [prio] by rw [hv, hg]; exact Rd.of_own (own_lit1I u0 prio (Nat.le_refl _)))
    rw [← hv] at hb s1
    have ST1 := Lib.hid (ST0.out.below hb)
    rw [← hv, ← hg]
    clear hv hg hb s0
    refine wpAnyH_ready (rs := [4]) (by kernel_rfl) (by simp) ?_
    refine AllReadyH.cons rfl (fun K hK => ?_) AllReadyH.nil
    go_simp
    have hb : Below u1.heap.size u1 (u1.alloc (.cells #[.int .u64 16, .int .u64 id, .int .u64 grp] 22)) := (Below.refl _ _).alloc (Nat.le_refl _) _
    refine hK.out _ _ (ST1.out.below hb).box (fun s2 => ?_)
    clear hK K
    obtain ⟨u2, hv⟩ : ∃ v, v = u1.alloc (.cells #[.int .u64 16, .int .u64 id, .int .u64 grp] 22) := ⟨_, rfl⟩
    obtain ⟨gA, hg⟩ : ∃ g, g = u1.heap.size := ⟨_, rfl⟩
    have RA2 := Lib.hid (show RdI .u64 u2 (some ⟨gA, 0, none⟩) [16, id, grp] by rw [hv, hg]; exact rdlitI u1 [16, id, grp] (Nat.le_of_ble_eq_true rfl))
    rw [← hv] at hb s2
    have ST2 := Lib.hid (ST1.out.below hb)
    have RB2 := Lib.hid (Rd.below RB1.out hb)
    rw [← hv, ← hg]
    clear hv hg hb s1
    refine wpAnyH_ready (rs := [5]) (by kernel_rfl) (by simp) ?_
    refine AllReadyH.cons rfl (fun K hK => ?_) AllReadyH.nil
    go_simp
    refine (numbers_any (some ⟨gA, 0, none⟩) 3 [16, id, grp] u2 (HT.out.below ST2.out.bel) RA2.out (Nat.le_of_ble_eq_true rfl) HIN.out).mono ?_
    rintro e u3 ⟨nA, nc, rfl, oN, hb⟩
    rw [show iencs [16, id, grp] = NB from HNB.out.symm] at oN ⊢
    refine hK.out _ _ (ST2.out.below hb).box (fun s3 => ?_)
    clear hK K
    have ON3 := Lib.hid (Own.base_leI oN ST2.out.bel.size)
    have ST3 := Lib.hid (ST2.out.below hb)
    have RA3 := Lib.hid (RdI.below RA2.out hb)
    have RB3 := Lib.hid (Rd.below RB2.out hb)
    clear oN hb s2
    refine wpAnyH_ready (rs := [9]) (by kernel_rfl) (by simp) ?_
    refine AllReadyH.cons rfl (fun K hK => ?_) AllReadyH.nil
    refine step_appI rfl (.tmp 36) (.tmp 39) rfl W.heap.size (l := NB) (news := [prio]) Y HY.out rfl rfl ON3.out RB3.out (by have := HNL.out; simp; omega) ST3.out.bel.size ?_
    intro pA pc u9 o9 b9
    have ST9 := Lib.hid (ST3.out.app b9)
    have O9 := Lib.hid o9
    refine hK.out _ _ ST9.out.box (fun s9 => ?_)
    clear hK K o9 b9
    simp only [List.getElem_toArray, List.getElem_cons_succ, List.getElem_cons_zero, Act.put, List.setIfInBounds_toArray, List.set_cons_succ, List.set_cons_zero]
    refine wpAnyH_take (i := 10) (oi := ⟨_, _, _, _, _, _⟩) (v := .slice pA Y.length pc) rfl (by kernel_rfl) (by kernel_rfl) (by kernel_rfl) (fun _ _ _ h => h) (Or.inl ⟨by rfl, fun w' hS => by go_simp⟩) s9 ?_
    simp only [Act.put, List.setIfInBounds_toArray, List.set_cons_zero, List.set_cons_succ]
    refine wpAnyH_take (i := 11) (oi := ⟨_, _, _, _, _, _⟩) (v := .int .i64 0) rfl (by kernel_rfl) (by kernel_rfl) (by kernel_rfl) (fun _ _ _ h => h) (Or.inl ⟨by rfl, fun w' hS => by go_simp⟩) s9 ?_
    simp only [Act.put, List.setIfInBounds_toArray, List.set_cons_zero, List.set_cons_succ]
    refine wpAnyH_done (by kernel_rfl) ?_ _
    go_wp2_with fail
    show P9 _ _
    rw [HP.out]
    exact ⟨pA, pc, by rw [← HYE.out]; rfl, by rw [← HYE.out]; exact Own.base_leI O9.out BW.out.size, BW.out.trans (ST9.out.bel.mono BW.out.size)⟩
theorem holds_g (id grp obj prio : Int) (A : Option Addr) (n c : Nat) (w : World) :
    Calls Tryd.prog 42 #[.agg #[.bool false, .int .u64 id, .int .u64 grp, .int .u8 prio], .agg #[.int .u64 grp, .int .u64 obj, .int .u8 prio, .bool false, .slice A n c]] w fun r w' => r = .returned (.bool true) ∧ Below w.heap.size w w' := by
  have b : Below w.heap.size w ((w.alloc (.cells #[.bool false, .int .u64 id, .int .u64 grp, .int .u8 prio] 53)).alloc (.cells #[.int .u64 grp, .int .u64 obj, .int .u8 prio, .bool false, .slice A n c] 27)) := ((Below.refl _ _).alloc (Nat.le_refl _) _).alloc (by simp) _
  have B := Lib.hid b
  clear b
  go_enter Tryd.func42, Tryd.ntmps42
  go_wp2_with fail
  go_ret
  exact ⟨rfl, B.out⟩
set_option maxRecDepth 100000 in
set_option maxHeartbeats 3200000 in
theorem Next_g (id grp obj prio : Int) (data : List Int) (A : Option Addr) (c : Nat) (w : World) (ht : Tab w) (h1 : InI id) (h2 : InI grp) (h3 : InI obj) (hd : Rd w A data) (hl : data.length ≤ 2048) :
    Calls Tryd.prog 23 #[.agg #[.bool false, .int .u64 id, .int .u64 grp, .int .u8 prio], .agg #[.int .u64 grp, .int .u64 obj, .int .u8 prio, .bool false, .slice A data.length c]] w fun r w' => ∃ A' c', r = .returned (.tuple #[.slice A' (iencs [obj] ++ vtext data).length c', .int .i64 0]) ∧ Own w' w.heap.size A' c' (iencs [obj] ++ vtext data) ∧ Below w.heap.size w w' := by
  obtain ⟨P9, hP9⟩ : ∃ P9 : World → Ending → Prop, P9 = fun w' r => ∃ A' c', r = .returned (.tuple #[.slice A' (iencs [obj] ++ vtext data).length c', .int .i64 0]) ∧ Own w' w.heap.size A' c' (iencs [obj] ++ vtext data) ∧ Below w.heap.size w w' := ⟨_, rfl⟩
  have HP := Lib.hid hP9
  refine Calls.mono (R := fun r w' => P9 w' r) ?_ (fun r w' h => by rw [hP9] at h; exact h)
  obtain ⟨NB, hNB⟩ : ∃ NB, NB = iencs [obj] := ⟨_, rfl⟩
  obtain ⟨TX, hTX⟩ : ∃ TX, TX = vtext data := ⟨_, rfl⟩
  obtain ⟨Y, hY⟩ : ∃ Y, Y = NB ++ TX := ⟨_, rfl⟩
  have HYE := Lib.hid (show Y = iencs [obj] ++ vtext data by rw [hY, hNB, hTX])
  have HNB := Lib.hid hNB
  have HTX := Lib.hid hTX
  have HY := Lib.hid hY
  have HIN := Lib.hid (show ∀ x ∈ [id, grp, grp, obj], InI x from fun x hx => by
    simp only [List.mem_cons, List.not_mem_nil, or_false] at hx
    rcases hx with rfl | rfl | rfl | rfl
    · exact h1
    · exact h2
    · exact h2
    · exact h3)
  have HNL := Lib.hid (show NB.length ≤ 40 by rw [hNB]; have := iencs_len (l := [obj]) (by intro x hx; simp at hx; subst hx; exact h3); simp only [List.length_cons, List.length_nil] at this; omega)
  have HTL := Lib.hid (show TX.length ≤ 3000 by rw [hTX]; unfold vtext; rw [List.length_append]; have := (venc_le (data.length : Int) (by omega) (by omega)).2.1; omega)
  obtain ⟨W, hW⟩ : ∃ W, W = (w.alloc (.cells #[.bool false, .int .u64 id, .int .u64 grp, .int .u8 prio] 53)).alloc (.cells #[.int .u64 grp, .int .u64 obj, .int .u8 prio, .bool false, .slice A data.length c] 27) := ⟨_, rfl⟩
  have bw : Below w.heap.size w W := by rw [hW]; exact ((Below.refl _ _).alloc (Nat.le_refl _) _).alloc (by simp) _
  have kw : Blk W w.heap.size 53 #[.bool false, .int .u64 id, .int .u64 grp, .int .u8 prio] := by rw [hW]; exact (Blk.new _ _ _).alloc _
  have ko : Blk W (w.heap.size + 1) 27 #[.int .u64 grp, .int .u64 obj, .int .u8 prio, .bool false, .slice A data.length c] := by
    rw [hW]
    have := Blk.new (w.alloc (.cells #[.bool false, .int .u64 id, .int .u64 grp, .int .u8 prio] 53)) 27 #[.int .u64 grp, .int .u64 obj, .int .u8 prio, .bool false, .slice A data.length c]
    simpa using this
  have HT := Lib.hid (ht.below bw)
  have BW := Lib.hid bw
  have HW := Lib.hid hW
  have HD := Lib.hid (Rd.below hd bw)
  have K0 := Lib.hid kw
  have O0 := Lib.hid ko
  have ba : Below W.heap.size W (W.alloc (.cells #[.int .u64 id, .int .u64 grp, .int .u64 grp, .int .u64 obj] 22)) := (Below.refl _ _).alloc (Nat.le_refl _) _
  have EN := encodableI_any (some ⟨W.heap.size, 0, none⟩) 4 [id, grp, grp, obj] _ (rdlitI W [id, grp, grp, obj] (Nat.le_of_ble_eq_true rfl)) (Nat.le_of_ble_eq_true rfl)
  rw [encI_of (l := [id, grp, grp, obj]) HIN.out] at EN
  have EN2 := Lib.hid EN
  have BA := Lib.hid ba
  have k1 := kw.cell 1
  have k2 := kw.cell 2
  have zk := kw.lt
  have o0 := ko.cell 0
  have o1 := ko.cell 1
  have o4 := ko.cell 4
  have zo := ko.lt
  have hg : decide ((2048 : Int) < (data.length : Int)) = false := by simp; omega
  simp only [List.getElem?_toArray, List.getElem?_cons_zero, List.getElem?_cons_succ] at k1 k2 o0 o1 o4
  clear hNB hY hTX ht bw hW kw ko ba EN hP9 hd
  go_enter Tryd.func23, Tryd.ntmps23
  go_upto_region 1 with (fail)
  rw [← HW.out]
  go_wp2_with fail
  refine EN2.out.mono ?_
  rintro e w2 ⟨rfl, hw2⟩
  obtain ⟨W2, hW2⟩ : ∃ W2, W2 = W.alloc (.cells #[.int .u64 id, .int .u64 grp, .int .u64 grp, .int .u64 obj] 22) := ⟨_, rfl⟩
  have BB2 := Lib.hid (show Below W.heap.size W W2 by rw [hW2]; exact BA.out)
  rw [← hw2]
  have e2 : W.alloc (.cells (IV .u64 [id, grp, grp, obj]).toArray 22) = W2 := hW2.symm
  rw [e2]
  clear hw2 e2 hW2 EN2 BA k1 k2 zk o0 o1 o4 zo
  have kw := K0.out.below BB2.out K0.out.lt
  have ko := O0.out.below BB2.out O0.out.lt
  have k0 := kw.cell 0
  have k1 := kw.cell 1
  have k2 := kw.cell 2
  have k3 := kw.cell 3
  have zk := kw.lt
  have o0 := ko.cell 0
  have o1 := ko.cell 1
  have o2 := ko.cell 2
  have o3 := ko.cell 3
  have o4 := ko.cell 4
  have zo := ko.lt
  have HH := Lib.hid (holds_g id grp obj prio A data.length c W2)
  simp only [List.getElem?_toArray, List.getElem?_cons_zero, List.getElem?_cons_succ] at k0 k1 k2 k3 o0 o1 o2 o3 o4
  clear kw ko
  go_wp2_with fail
  refine HH.out.mono ?_
  rintro e w3 ⟨rfl, b3⟩
  have BB3 := Lib.hid (BB2.out.trans (b3.mono BB2.out.size))
  clear b3 HH k0 k1 k2 k3 zk o0 o1 o2 o3 o4 zo BB2
  have ko := O0.out.below BB3.out O0.out.lt
  have o4 := ko.cell 4
  have zo := ko.lt
  simp only [List.getElem?_toArray, List.getElem?_cons_zero, List.getElem?_cons_succ] at o4
  have TT := text_any A c data w3 (HT.out.below BB3.out) (Rd.below HD.out BB3.out) (by omega)
  rw [show vtext data = TX from HTX.out.symm] at TT
  have TT2 := Lib.hid TT
  clear ko TT
  go_wp2_with fail
  refine TT2.out.mono ?_
  rintro e w4 ⟨A4, c4, rfl, ow4, b4⟩
  have BB4 := Lib.hid (BB3.out.trans (b4.mono BB3.out.size))
  have OW4 := Lib.hid ow4
  have kw := K0.out.below BB4.out K0.out.lt
  have ko := O0.out.below BB4.out O0.out.lt
  have k0 := kw.cell 0
  have zk := kw.lt
  have o1 := ko.cell 1
  have zo2 := ko.lt
  simp only [List.getElem?_toArray, List.getElem?_cons_zero, List.getElem?_cons_succ] at k0 o1
  have ba : Below w4.heap.size w4 (w4.alloc (.cells #[.int .u64 obj] 22)) := (Below.refl _ _).alloc (Nat.le_refl _) _
  have NN := numbers_any (some ⟨w4.heap.size, 0, none⟩) 1 [obj] _ (HT.out.below (BB4.out.trans (ba.mono BB4.out.size))) (rdlitI w4 [obj] (Nat.le_of_ble_eq_true rfl)) (Nat.le_of_ble_eq_true rfl) (fun x hx => by simp at hx; subst hx; exact h3)
  rw [show iencs [obj] = NB from HNB.out.symm] at NN
  have NN2 := Lib.hid NN
  have BA := Lib.hid ba
  clear kw ko ow4 b4 ba NN o4 zo TT2 BB3
  go_wp2_with fail
  refine NN2.out.mono ?_
  rintro e w5 ⟨A5, c5, rfl, ow5, b5⟩
  have b45 := BA.out.trans (b5.mono BA.out.size)
  have BB5 := Lib.hid (BB4.out.trans (b45.mono BB4.out.size))
  have OW5 := Lib.hid (Own.base_leI ow5 (Nat.le_trans BB4.out.size BA.out.size))
  have TX5 := Lib.hid (Rd.of_own (Own.below OW4.out b45))
  clear ow5 b5 b45 NN2 BA k0 zk o1 zo2
  go_wp2_with (at_builtin
               go_must (refine wpList_appI rfl (.tmp 57) (.tmp 58) rfl W.heap.size (l := NB) (news := TX) Y HY.out rfl rfl OW5.out TX5.out (by have := HNL.out; have := HTL.out; omega) BB5.out.size ?_)
               intro A6 c6 w6 o6 g6 b6
               have O6 := Lib.hid o6
               have BB6 := Lib.hid (BB5.out.trans b6)
               clear o6 g6 b6)
  show P9 _ _
  rw [HP.out]
  exact ⟨A6, c6, by rw [← HYE.out]; rfl, by rw [← HYE.out]; exact Own.base_leI O6.out BW.out.size, BW.out.trans (BB6.out.mono BW.out.size)⟩
end Go.Proofs.YtpaglcojbcndoaaDoor
