/-
  ItemFalls: the walk (made by mkItemU.py).
-/
import Derived.Test.YtpaglcojbcndoaaDoorItemU
namespace Go.Proofs.YtpaglcojbcndoaaDoor
open Go.RowKit
set_option linter.unusedVariables false
set_option linter.unusedSimpArgs false
set_option maxHeartbeats 12800000 in
set_option maxRecDepth 100000 in
theorem falls16_walk (h : IH) (a : OV) (Aa : Option Addr) (ca : Nat) (b : OV) (Ab : Option Addr) (cb : Nat) (w : World) (ht : Tab w) (hk : IHOk h) (ha : OVOk w a Aa ca) (hb : OVOk w b Ab cb) :
    Calls Tryd.prog 6 #[.agg (ihC h), .agg (ovC a Aa ca), .agg (ovC b Ab cb)] w fun r w' => r = .returned (.bool true) ∧ Below w.heap.size w w' := by
  obtain ⟨P9, hP9⟩ : ∃ P9 : World → Ending → Prop, P9 = fun w' r => r = .returned (.bool true) ∧ Below w.heap.size w w' := ⟨_, rfl⟩
  have HP := Lib.hid hP9
  rw [show (fun r w' => r = .returned (.bool true) ∧ Below w.heap.size w w') = fun r w' => P9 w' r by rw [hP9]]
  obtain ⟨AC, hAC⟩ : ∃ x, x = ovC a Aa ca := ⟨_, rfl⟩
  obtain ⟨BC, hBC⟩ : ∃ x, x = ovC b Ab cb := ⟨_, rfl⟩
  obtain ⟨HC, hHC⟩ : ∃ x, x = ihC h := ⟨_, rfl⟩
  rw [← hAC, ← hBC, ← hHC]
  obtain ⟨W, hW⟩ : ∃ W, W = ((w.alloc (.cells HC 50)).alloc (.cells AC 27)).alloc (.cells BC 27) := ⟨_, rfl⟩
  have bw : Below w.heap.size w W := by rw [hW]; exact (((Below.refl _ _).alloc (Nat.le_refl _) _).alloc (by simp) _).alloc (by simp; omega) _
  obtain ⟨gh, hgh⟩ : ∃ g, g = w.heap.size := ⟨_, rfl⟩
  obtain ⟨ga, hga⟩ : ∃ g, g = w.heap.size + 1 := ⟨_, rfl⟩
  obtain ⟨gb, hgb⟩ : ∃ g, g = w.heap.size + 1 + 1 := ⟨_, rfl⟩
  have SW := Lib.hid (show FaS w W gh ga gb HC AC BC from ⟨by rw [hW, hgh]; exact ((Blk.new _ _ _).alloc _).alloc _, by
    rw [hW, hga]
    have := (Blk.new (w.alloc (.cells HC 50)) 27 AC).alloc (.cells BC 27)
    simpa using this, by
    rw [hW, hgb]
    have := Blk.new ((w.alloc (.cells HC 50)).alloc (.cells AC 27)) 27 BC
    simpa using this, bw, by omega⟩)
  have AW := Lib.hid (awake16_any W (ht.below bw))
  have HFA := Lib.hid (fun W' (q : Below w.heap.size w W') => (show Calls Tryd.prog 9 #[.agg AC] W' fun r w' => FewN W' w' a r from by rw [hAC]; exact (fewO_any a Aa ca W' (ha.sl.below q)).mono fun r w' x => x.named))
  have HFB := Lib.hid (fun W' (q : Below w.heap.size w W') => (show Calls Tryd.prog 9 #[.agg BC] W' fun r w' => FewN W' w' b r from by rw [hBC]; exact (fewO_any b Ab cb W' (hb.sl.below q)).mono fun r w' x => x.named))
  have HAC5 := Lib.hid (ovC_size hAC)
  have HBC5 := Lib.hid (ovC_size hBC)
  have HAS := Lib.hid (show (Tryd.prog.info? 27).map (·.size) = some AC.size by rw [hAC]; exact info_obj)
  have HBS := Lib.hid (show (Tryd.prog.info? 27).map (·.size) = some BC.size by rw [hBC]; exact info_obj)
  have HHS := Lib.hid (show (Tryd.prog.info? 50).map (·.size) = some HC.size by rw [hHC]; kernel_rfl)
  have HHC := Lib.hid hHC
  have HHK := Lib.hid hk
  have HAB := Lib.hid (show ∀ o ∈ [a, b], (0 ≤ o.grp ∧ 0 ≤ o.obj) ∧ (0 ≤ o.prio ∧ o.prio < 256) ∧ Bytes (cutO o).data ∧ (cutO o).data.length ≤ 2100 from fun o ho => by
    have q : ∃ A c, OVOk w o A c := by
      rcases List.mem_cons.1 ho with rfl | ho
      · exact ⟨_, _, ha⟩
      · rw [List.mem_singleton] at ho; subst ho; exact ⟨_, _, hb⟩
    obtain ⟨A, c, q⟩ := q
    exact ⟨⟨q.grp, q.obj⟩, q.prio, fun x hx => q.by_ x (List.mem_of_mem_take hx), by show (o.data.take 2100).length ≤ 2100; rw [List.length_take]; omega⟩)
  have HW := Lib.hid hW
  have HG := Lib.hid (And.intro hgh (And.intro hga hgb))
  clear ht hk ha hb hAC hBC hHC hW bw hgh hga hgb hP9
  go_enter Tryd.func6, Tryd.ntmps6
  go_upto_region 1 with (fail)
  rw [← HW.out, ← HG.out.2.2, ← HG.out.2.1, ← HG.out.1]
  go_wp2_with fail
  refine AW.out.mono ?_
  rintro e w1 ⟨rfl, b1⟩
  have S1 := Lib.hid (SW.out.below b1)
  clear b1 AW SW HW
  go_upto_region 3 with (fail)
  go_cut [] (fun wx => ∃ (A1 : Option Addr) (c1 : Nat) (A2 : Option Addr) (c2 : Nat), Hid (FaX w wx gh ga gb HC (cutO a) (cutO b) A1 c1 A2 c2))
  case first =>
    refine wp_region_held_drew (S := fun wv => Below w.heap.size w wv) (by kernel_rfl) S1.out.bel.drew (fun s0 => ?_)
    have S0 := Lib.hid S1.out.drew
    generalize w1.drew = u0 at s0 S0 ⊢
    clear S1 s0
    refine wpAnyH_ready (rs := [0, 2]) (by kernel_rfl) (by simp) ?_
    refine (AllReadyH.cons rfl (fun K hK => ?_) (AllReadyH.cons rfl (fun K hK => ?_) AllReadyH.nil))
    · rw [if_pos (by rfl)]
      refine wp_load_mid 27 (.tmp 4) rfl ga 0 rfl AC.toList _ (range_blkI S0.out.a) Tryd.underlying27 rfl (by rw [Array.length_toList]; exact HAS.out) ?_
      rw [Array.toArray_toList]
      simp only [List.getElem_toArray, List.getElem_cons_succ, List.getElem_cons_zero, Act.put, List.setIfInBounds_toArray, List.set_cons_zero, List.set_cons_succ]
      refine hK.out _ _ S0.out.bel (fun _ => ?_)
      clear hK K
      refine wpAnyH_ready (rs := [1, 2]) (by kernel_rfl) (by simp) ?_
      refine (AllReadyH.cons rfl (fun K hK => ?_) (AllReadyH.cons rfl (fun K hK => ?_) AllReadyH.nil))
      · go_simp
        refine (HFA.out _ S0.out.bel).mono ?_
        intro e u1 hN
        obtain ⟨⟨A1, c1, NA, rfl, hNA, oNA⟩, bNA⟩ := hN
        have S1 := Lib.hid (S0.out.below bNA)
        have OA1 := Lib.hid (Own.base_leI oNA.out S0.out.bel.size)
        refine hK.out _ _ S1.out.bel (fun _ => ?_)
        clear hK K oNA bNA
        refine wpAnyH_ready (rs := [2]) (by kernel_rfl) (by simp) ?_
        refine (AllReadyH.cons rfl (fun K hK => ?_) AllReadyH.nil)
        rw [if_pos (by rfl)]
        refine wp_load_mid 27 (.tmp 5) rfl gb 0 rfl BC.toList _ (range_blkI S1.out.b) Tryd.underlying27 rfl (by rw [Array.length_toList]; exact HBS.out) ?_
        rw [Array.toArray_toList]
        simp only [List.getElem_toArray, List.getElem_cons_succ, List.getElem_cons_zero, Act.put, List.setIfInBounds_toArray, List.set_cons_zero, List.set_cons_succ]
        refine hK.out _ _ S1.out.bel (fun _ => ?_)
        clear hK K
        refine wpAnyH_ready (rs := [3]) (by kernel_rfl) (by simp) ?_
        refine (AllReadyH.cons rfl (fun K hK => ?_) AllReadyH.nil)
        go_simp
        refine (HFB.out _ S1.out.bel).mono ?_
        intro e u2 hN
        obtain ⟨⟨A2, c2, NB, rfl, hNB, oNB⟩, bNB⟩ := hN
        have S2 := Lib.hid (S1.out.below bNB)
        have OB2 := Lib.hid (Own.base_leI oNB.out S1.out.bel.size)
        have OA2 := Lib.hid (Own.below OA1.out bNB)
        refine hK.out _ _ S2.out.bel (fun _ => ?_)
        clear hK K oNB bNB
        refine wpAnyH_ready (rs := [4]) (by kernel_rfl) (by simp) ?_
        refine (AllReadyH.cons rfl (fun K hK => ?_) AllReadyH.nil)
        rw [if_pos (by rfl)]
        refine wp_store_row 27 (.tmp 4) (.tmp 19) rfl ga NA rfl rfl 27 _ S2.out.a (by rw [hNA.out]; exact info_obj) (by rw [ovC_size hNA.out, HAC5.out]) (ovC_all hNA.out) ?_
        simp only [List.getElem_toArray, List.getElem_cons_succ, List.getElem_cons_zero, Act.put, List.setIfInBounds_toArray, List.set_cons_zero, List.set_cons_succ]
        have S3' := S2.out.setA NA
        have OA3' := own_setRowT OA2.out S2.out.a (by decide) NA
        have OB3' := own_setRowT OB2.out S2.out.a (by decide) NA
        refine hK.out _ _ S3'.bel (fun _ => ?_)
        clear hK K
        obtain ⟨u3, hu⟩ : ∃ v, v = u2.setRow ga NA := ⟨_, rfl⟩
        rw [← hu] at S3' OA3' OB3' ⊢
        have S3 := Lib.hid S3'
        have OA3 := Lib.hid OA3'
        have OB3 := Lib.hid OB3'
        clear hu S3' OA3' OB3'
        refine wpAnyH_ready (rs := [5]) (by kernel_rfl) (by simp) ?_
        refine (AllReadyH.cons rfl (fun K hK => ?_) AllReadyH.nil)
        rw [if_pos (by rfl)]
        refine wp_store_row 27 (.tmp 5) (.tmp 21) rfl gb NB rfl rfl 27 _ S3.out.b (by rw [hNB.out]; exact info_obj) (by rw [ovC_size hNB.out, HBC5.out]) (ovC_all hNB.out) ?_
        simp only [List.getElem_toArray, List.getElem_cons_succ, List.getElem_cons_zero, Act.put, List.setIfInBounds_toArray, List.set_cons_zero, List.set_cons_succ]
        have S4' := S3.out.setB NB
        have OA4' := own_setRowT OA3.out S3.out.b (by decide) NB
        have OB4' := own_setRowT OB3.out S3.out.b (by decide) NB
        refine hK.out _ _ S4'.bel (fun _ => ?_)
        clear hK K
        obtain ⟨u4, hu⟩ : ∃ v, v = u3.setRow gb NB := ⟨_, rfl⟩
        rw [← hu] at S4' OA4' OB4' ⊢
        have S4 := Lib.hid S4'
        have OA4 := Lib.hid OA4'
        have OB4 := Lib.hid OB4'
        clear hu S4' OA4' OB4'
        have FIN := Lib.hid (show FaX w u4 gh ga gb HC (cutO a) (cutO b) A1 c1 A2 c2 from ⟨by have s := S4.out; rw [hNA.out, hNB.out] at s; exact s, OA4.out, OB4.out⟩)
        refine wpAnyH_done (by kernel_rfl) ?_ _
        go_wp2_with fail
        go_meet
        exact ⟨A1, c1, A2, c2, FIN⟩
      · rw [if_pos (by rfl)]
        refine wp_load_mid 27 (.tmp 5) rfl gb 0 rfl BC.toList _ (range_blkI S0.out.b) Tryd.underlying27 rfl (by rw [Array.length_toList]; exact HBS.out) ?_
        rw [Array.toArray_toList]
        simp only [List.getElem_toArray, List.getElem_cons_succ, List.getElem_cons_zero, Act.put, List.setIfInBounds_toArray, List.set_cons_zero, List.set_cons_succ]
        refine hK.out _ _ S0.out.bel (fun _ => ?_)
        clear hK K
        refine wpAnyH_ready (rs := [1]) (by kernel_rfl) (by simp) ?_
        refine (AllReadyH.cons rfl (fun K hK => ?_) AllReadyH.nil)
        go_simp
        refine (HFA.out _ S0.out.bel).mono ?_
        intro e u1 hN
        obtain ⟨⟨A1, c1, NA, rfl, hNA, oNA⟩, bNA⟩ := hN
        have S1 := Lib.hid (S0.out.below bNA)
        have OA1 := Lib.hid (Own.base_leI oNA.out S0.out.bel.size)
        refine hK.out _ _ S1.out.bel (fun _ => ?_)
        clear hK K oNA bNA
        refine wpAnyH_ready (rs := [3]) (by kernel_rfl) (by simp) ?_
        refine (AllReadyH.cons rfl (fun K hK => ?_) AllReadyH.nil)
        go_simp
        refine (HFB.out _ S1.out.bel).mono ?_
        intro e u2 hN
        obtain ⟨⟨A2, c2, NB, rfl, hNB, oNB⟩, bNB⟩ := hN
        have S2 := Lib.hid (S1.out.below bNB)
        have OB2 := Lib.hid (Own.base_leI oNB.out S1.out.bel.size)
        have OA2 := Lib.hid (Own.below OA1.out bNB)
        refine hK.out _ _ S2.out.bel (fun _ => ?_)
        clear hK K oNB bNB
        refine wpAnyH_ready (rs := [4]) (by kernel_rfl) (by simp) ?_
        refine (AllReadyH.cons rfl (fun K hK => ?_) AllReadyH.nil)
        rw [if_pos (by rfl)]
        refine wp_store_row 27 (.tmp 4) (.tmp 19) rfl ga NA rfl rfl 27 _ S2.out.a (by rw [hNA.out]; exact info_obj) (by rw [ovC_size hNA.out, HAC5.out]) (ovC_all hNA.out) ?_
        simp only [List.getElem_toArray, List.getElem_cons_succ, List.getElem_cons_zero, Act.put, List.setIfInBounds_toArray, List.set_cons_zero, List.set_cons_succ]
        have S3' := S2.out.setA NA
        have OA3' := own_setRowT OA2.out S2.out.a (by decide) NA
        have OB3' := own_setRowT OB2.out S2.out.a (by decide) NA
        refine hK.out _ _ S3'.bel (fun _ => ?_)
        clear hK K
        obtain ⟨u3, hu⟩ : ∃ v, v = u2.setRow ga NA := ⟨_, rfl⟩
        rw [← hu] at S3' OA3' OB3' ⊢
        have S3 := Lib.hid S3'
        have OA3 := Lib.hid OA3'
        have OB3 := Lib.hid OB3'
        clear hu S3' OA3' OB3'
        refine wpAnyH_ready (rs := [5]) (by kernel_rfl) (by simp) ?_
        refine (AllReadyH.cons rfl (fun K hK => ?_) AllReadyH.nil)
        rw [if_pos (by rfl)]
        refine wp_store_row 27 (.tmp 5) (.tmp 21) rfl gb NB rfl rfl 27 _ S3.out.b (by rw [hNB.out]; exact info_obj) (by rw [ovC_size hNB.out, HBC5.out]) (ovC_all hNB.out) ?_
        simp only [List.getElem_toArray, List.getElem_cons_succ, List.getElem_cons_zero, Act.put, List.setIfInBounds_toArray, List.set_cons_zero, List.set_cons_succ]
        have S4' := S3.out.setB NB
        have OA4' := own_setRowT OA3.out S3.out.b (by decide) NB
        have OB4' := own_setRowT OB3.out S3.out.b (by decide) NB
        refine hK.out _ _ S4'.bel (fun _ => ?_)
        clear hK K
        obtain ⟨u4, hu⟩ : ∃ v, v = u3.setRow gb NB := ⟨_, rfl⟩
        rw [← hu] at S4' OA4' OB4' ⊢
        have S4 := Lib.hid S4'
        have OA4 := Lib.hid OA4'
        have OB4 := Lib.hid OB4'
        clear hu S4' OA4' OB4'
        have FIN := Lib.hid (show FaX w u4 gh ga gb HC (cutO a) (cutO b) A1 c1 A2 c2 from ⟨by have s := S4.out; rw [hNA.out, hNB.out] at s; exact s, OA4.out, OB4.out⟩)
        refine wpAnyH_done (by kernel_rfl) ?_ _
        go_wp2_with fail
        go_meet
        exact ⟨A1, c1, A2, c2, FIN⟩
    · rw [if_pos (by rfl)]
      refine wp_load_mid 27 (.tmp 5) rfl gb 0 rfl BC.toList _ (range_blkI S0.out.b) Tryd.underlying27 rfl (by rw [Array.length_toList]; exact HBS.out) ?_
      rw [Array.toArray_toList]
      simp only [List.getElem_toArray, List.getElem_cons_succ, List.getElem_cons_zero, Act.put, List.setIfInBounds_toArray, List.set_cons_zero, List.set_cons_succ]
      refine hK.out _ _ S0.out.bel (fun _ => ?_)
      clear hK K
      refine wpAnyH_ready (rs := [0]) (by kernel_rfl) (by simp) ?_
      refine (AllReadyH.cons rfl (fun K hK => ?_) AllReadyH.nil)
      rw [if_pos (by rfl)]
      refine wp_load_mid 27 (.tmp 4) rfl ga 0 rfl AC.toList _ (range_blkI S0.out.a) Tryd.underlying27 rfl (by rw [Array.length_toList]; exact HAS.out) ?_
      rw [Array.toArray_toList]
      simp only [List.getElem_toArray, List.getElem_cons_succ, List.getElem_cons_zero, Act.put, List.setIfInBounds_toArray, List.set_cons_zero, List.set_cons_succ]
      refine hK.out _ _ S0.out.bel (fun _ => ?_)
      clear hK K
      refine wpAnyH_ready (rs := [1]) (by kernel_rfl) (by simp) ?_
      refine (AllReadyH.cons rfl (fun K hK => ?_) AllReadyH.nil)
      go_simp
      refine (HFA.out _ S0.out.bel).mono ?_
      intro e u1 hN
      obtain ⟨⟨A1, c1, NA, rfl, hNA, oNA⟩, bNA⟩ := hN
      have S1 := Lib.hid (S0.out.below bNA)
      have OA1 := Lib.hid (Own.base_leI oNA.out S0.out.bel.size)
      refine hK.out _ _ S1.out.bel (fun _ => ?_)
      clear hK K oNA bNA
      refine wpAnyH_ready (rs := [3]) (by kernel_rfl) (by simp) ?_
      refine (AllReadyH.cons rfl (fun K hK => ?_) AllReadyH.nil)
      go_simp
      refine (HFB.out _ S1.out.bel).mono ?_
      intro e u2 hN
      obtain ⟨⟨A2, c2, NB, rfl, hNB, oNB⟩, bNB⟩ := hN
      have S2 := Lib.hid (S1.out.below bNB)
      have OB2 := Lib.hid (Own.base_leI oNB.out S1.out.bel.size)
      have OA2 := Lib.hid (Own.below OA1.out bNB)
      refine hK.out _ _ S2.out.bel (fun _ => ?_)
      clear hK K oNB bNB
      refine wpAnyH_ready (rs := [4]) (by kernel_rfl) (by simp) ?_
      refine (AllReadyH.cons rfl (fun K hK => ?_) AllReadyH.nil)
      rw [if_pos (by rfl)]
      refine wp_store_row 27 (.tmp 4) (.tmp 19) rfl ga NA rfl rfl 27 _ S2.out.a (by rw [hNA.out]; exact info_obj) (by rw [ovC_size hNA.out, HAC5.out]) (ovC_all hNA.out) ?_
      simp only [List.getElem_toArray, List.getElem_cons_succ, List.getElem_cons_zero, Act.put, List.setIfInBounds_toArray, List.set_cons_zero, List.set_cons_succ]
      have S3' := S2.out.setA NA
      have OA3' := own_setRowT OA2.out S2.out.a (by decide) NA
      have OB3' := own_setRowT OB2.out S2.out.a (by decide) NA
      refine hK.out _ _ S3'.bel (fun _ => ?_)
      clear hK K
      obtain ⟨u3, hu⟩ : ∃ v, v = u2.setRow ga NA := ⟨_, rfl⟩
      rw [← hu] at S3' OA3' OB3' ⊢
      have S3 := Lib.hid S3'
      have OA3 := Lib.hid OA3'
      have OB3 := Lib.hid OB3'
      clear hu S3' OA3' OB3'
      refine wpAnyH_ready (rs := [5]) (by kernel_rfl) (by simp) ?_
      refine (AllReadyH.cons rfl (fun K hK => ?_) AllReadyH.nil)
      rw [if_pos (by rfl)]
      refine wp_store_row 27 (.tmp 5) (.tmp 21) rfl gb NB rfl rfl 27 _ S3.out.b (by rw [hNB.out]; exact info_obj) (by rw [ovC_size hNB.out, HBC5.out]) (ovC_all hNB.out) ?_
      simp only [List.getElem_toArray, List.getElem_cons_succ, List.getElem_cons_zero, Act.put, List.setIfInBounds_toArray, List.set_cons_zero, List.set_cons_succ]
      have S4' := S3.out.setB NB
      have OA4' := own_setRowT OA3.out S3.out.b (by decide) NB
      have OB4' := own_setRowT OB3.out S3.out.b (by decide) NB
      refine hK.out _ _ S4'.bel (fun _ => ?_)
      clear hK K
      obtain ⟨u4, hu⟩ : ∃ v, v = u3.setRow gb NB := ⟨_, rfl⟩
      rw [← hu] at S4' OA4' OB4' ⊢
      have S4 := Lib.hid S4'
      have OA4 := Lib.hid OA4'
      have OB4 := Lib.hid OB4'
      clear hu S4' OA4' OB4'
      have FIN := Lib.hid (show FaX w u4 gh ga gb HC (cutO a) (cutO b) A1 c1 A2 c2 from ⟨by have s := S4.out; rw [hNA.out, hNB.out] at s; exact s, OA4.out, OB4.out⟩)
      refine wpAnyH_done (by kernel_rfl) ?_ _
      go_wp2_with fail
      go_meet
      exact ⟨A1, c1, A2, c2, FIN⟩
  case rest =>
    obtain ⟨A1, c1, A2, c2, M2⟩ := hcut
    rename World => w2
    clear S1 HFA HFB HAC5 HBC5 HAS HBS
    have ka3 := M2.out.s.a.cell 3
    have kaz := M2.out.s.a.lt
    have kaf := fun i => M2.out.s.a.frozen i
    have kb3 := M2.out.s.b.cell 3
    have kbz := M2.out.s.b.lt
    have kbf := fun i => M2.out.s.b.frozen i
    have kne : ga ≠ gb := by have := M2.out.s.lt; omega
    have kne2 : gb ≠ ga := Ne.symm kne
    have kne3 : gh ≠ ga := by have := M2.out.s.lt; omega
    have kne4 : gh ≠ gb := by have := M2.out.s.lt; omega
    have kh := M2.out.s.h
    rw [HHC.out] at kh
    have kh0 := kh.cell 0
    have khz := kh.lt
    simp only [ovC, ihC, List.getElem?_toArray, List.getElem?_cons_zero, List.getElem?_cons_succ] at ka3 kb3 kh0
    clear kh
    go_upto_region 5 with (fail)
    obtain ⟨w3, hw3⟩ : ∃ v, v = (w2.setCell ⟨ga, 3, none⟩ (.bool false)).setCell ⟨gb, 3, none⟩ (.bool false) := ⟨_, rfl⟩
    have M3 := Lib.hid (show FaX w w3 gh ga gb HC { cutO a with gram := false } { cutO b with gram := false } A1 c1 A2 c2 by rw [hw3]; exact M2.out.gram)
    rw [← hw3]
    clear hw3 ka3 kaz kaf kb3 kbz kbf kne kne2 kne3 kne4 kh0 khz M2
    have kh := M3.out.s.h
    rw [HHC.out] at kh
    have kh0 := kh.cell 0
    have khz := kh.lt
    simp only [ihC, List.getElem?_toArray, List.getElem?_cons_zero, List.getElem?_cons_succ] at kh0
    obtain ⟨fe, id, gr, pr⟩ := h
    simp only at kh0
    go_upto_if 26 with (fail)
    go_cut [] (fun wx => Hid (FaX w wx gh ga gb HC (adj ⟨fe, id, gr, pr⟩ (cutO a)) (adj ⟨fe, id, gr, pr⟩ (cutO b)) A1 c1 A2 c2))
    case first =>
      cases fe with
      | true =>
        clear kh kh0 khz
        go_wp2_with fail
        go_meet
        exact Lib.hid (show FaX w w3 gh ga gb HC (adj ⟨true, id, gr, pr⟩ (cutO a)) (adj ⟨true, id, gr, pr⟩ (cutO b)) A1 c1 A2 c2 from M3.out)
      | false =>
        have KH3 := Lib.hid (show Blk w3 gh 50 #[.bool false, .int .u64 id, .int .u64 gr, .int .u8 pr] from kh)
        have NH3 := Lib.hid (show ¬ (gh = ga ∨ gh = gb) from fun e => by have := M3.out.s.lt; omega)
        clear kh kh0 khz
        go_upto_region 6 with (fail)
        refine wp_region_held_drew (S := fun wv => Frm w3 wv (fun b => b = ga ∨ b = gb)) (by kernel_rfl) (Frm.refl _ _).drew (fun s0 => ?_)
        refine wpAnyH_take (i := 0) (oi := ⟨_, _, _, _, _, _⟩) (v := .pointer (some ⟨gh, 2, none⟩)) rfl (by kernel_rfl) (by kernel_rfl) (by kernel_rfl) (fun _ _ _ h => h) (Or.inl ⟨by rfl, fun w' hS => by go_simp⟩) s0 ?_
        simp only [List.getElem_toArray, List.getElem_cons_succ, List.getElem_cons_zero, Act.put, List.setIfInBounds_toArray, List.set_cons_zero, List.set_cons_succ]
        refine wpAnyH_take (i := 1) (oi := ⟨_, _, _, _, _, _⟩) (v := .int .u64 gr) rfl (by kernel_rfl) (by kernel_rfl) (by kernel_rfl) (fun _ _ _ h => h) (Or.inl ⟨by rfl, fun w' hS => by have kk := Frm.keep hS KH3.out NH3.out; have c0 := kk.cell 2; have z0 := kk.lt; simp only [List.getElem?_toArray, List.getElem?_cons_zero, List.getElem?_cons_succ] at c0; go_simp⟩) s0 ?_
        simp only [List.getElem_toArray, List.getElem_cons_succ, List.getElem_cons_zero, Act.put, List.setIfInBounds_toArray, List.set_cons_zero, List.set_cons_succ]
        refine wpAnyH_take (i := 2) (oi := ⟨_, _, _, _, _, _⟩) (v := .pointer (some ⟨gh, 3, none⟩)) rfl (by kernel_rfl) (by kernel_rfl) (by kernel_rfl) (fun _ _ _ h => h) (Or.inl ⟨by rfl, fun w' hS => by go_simp⟩) s0 ?_
        simp only [List.getElem_toArray, List.getElem_cons_succ, List.getElem_cons_zero, Act.put, List.setIfInBounds_toArray, List.set_cons_zero, List.set_cons_succ]
        refine wpAnyH_take (i := 3) (oi := ⟨_, _, _, _, _, _⟩) (v := .int .u8 pr) rfl (by kernel_rfl) (by kernel_rfl) (by kernel_rfl) (fun _ _ _ h => h) (Or.inl ⟨by rfl, fun w' hS => by have kk := Frm.keep hS KH3.out NH3.out; have c0 := kk.cell 3; have z0 := kk.lt; simp only [List.getElem?_toArray, List.getElem?_cons_zero, List.getElem?_cons_succ] at c0; go_simp⟩) s0 ?_
        simp only [List.getElem_toArray, List.getElem_cons_succ, List.getElem_cons_zero, Act.put, List.setIfInBounds_toArray, List.set_cons_zero, List.set_cons_succ]
        refine wpAnyH_take (i := 4) (oi := ⟨_, _, _, _, _, _⟩) (v := .pointer (some ⟨gh, 2, none⟩)) rfl (by kernel_rfl) (by kernel_rfl) (by kernel_rfl) (fun _ _ _ h => h) (Or.inl ⟨by rfl, fun w' hS => by go_simp⟩) s0 ?_
        simp only [List.getElem_toArray, List.getElem_cons_succ, List.getElem_cons_zero, Act.put, List.setIfInBounds_toArray, List.set_cons_zero, List.set_cons_succ]
        refine wpAnyH_take (i := 5) (oi := ⟨_, _, _, _, _, _⟩) (v := .int .u64 gr) rfl (by kernel_rfl) (by kernel_rfl) (by kernel_rfl) (fun _ _ _ h => h) (Or.inl ⟨by rfl, fun w' hS => by have kk := Frm.keep hS KH3.out NH3.out; have c0 := kk.cell 2; have z0 := kk.lt; simp only [List.getElem?_toArray, List.getElem?_cons_zero, List.getElem?_cons_succ] at c0; go_simp⟩) s0 ?_
        simp only [List.getElem_toArray, List.getElem_cons_succ, List.getElem_cons_zero, Act.put, List.setIfInBounds_toArray, List.set_cons_zero, List.set_cons_succ]
        refine wpAnyH_take (i := 6) (oi := ⟨_, _, _, _, _, _⟩) (v := .pointer (some ⟨gh, 3, none⟩)) rfl (by kernel_rfl) (by kernel_rfl) (by kernel_rfl) (fun _ _ _ h => h) (Or.inl ⟨by rfl, fun w' hS => by go_simp⟩) s0 ?_
        simp only [List.getElem_toArray, List.getElem_cons_succ, List.getElem_cons_zero, Act.put, List.setIfInBounds_toArray, List.set_cons_zero, List.set_cons_succ]
        refine wpAnyH_take (i := 7) (oi := ⟨_, _, _, _, _, _⟩) (v := .int .u8 pr) rfl (by kernel_rfl) (by kernel_rfl) (by kernel_rfl) (fun _ _ _ h => h) (Or.inl ⟨by rfl, fun w' hS => by have kk := Frm.keep hS KH3.out NH3.out; have c0 := kk.cell 3; have z0 := kk.lt; simp only [List.getElem?_toArray, List.getElem?_cons_zero, List.getElem?_cons_succ] at c0; go_simp⟩) s0 ?_
        simp only [List.getElem_toArray, List.getElem_cons_succ, List.getElem_cons_zero, Act.put, List.setIfInBounds_toArray, List.set_cons_zero, List.set_cons_succ]
        refine wpAnyH_take (i := 8) (oi := ⟨_, _, _, _, _, _⟩) (v := .pointer (some ⟨ga, 0, none⟩)) rfl (by kernel_rfl) (by kernel_rfl) (by kernel_rfl) (fun _ _ _ h => h) (Or.inl ⟨by rfl, fun w' hS => by go_simp⟩) s0 ?_
        simp only [List.getElem_toArray, List.getElem_cons_succ, List.getElem_cons_zero, Act.put, List.setIfInBounds_toArray, List.set_cons_zero, List.set_cons_succ]
        refine wpAnyH_take (i := 9) (oi := ⟨_, _, _, _, _, _⟩) (v := .pointer (some ⟨ga, 0, none⟩)) rfl (by kernel_rfl) (by kernel_rfl) (by kernel_rfl) (fun _ _ _ h => h) (Or.inl ⟨by rfl, fun w' hS => by go_simp⟩) s0 ?_
        simp only [List.getElem_toArray, List.getElem_cons_succ, List.getElem_cons_zero, Act.put, List.setIfInBounds_toArray, List.set_cons_zero, List.set_cons_succ]
        have F0 := Lib.hid s0
        have S0 := Lib.hid (show FaX w w3.drew gh ga gb HC { cutO a with gram := false } { cutO b with gram := false } A1 c1 A2 c2 from M3.out.below (Below.refl _ _).drew)
        obtain ⟨u0, hu0⟩ : ∃ v, v = w3.drew := ⟨_, rfl⟩
        rw [← hu0] at s0 F0 S0 ⊢
        have KA0 := Lib.hid S0.out.s.a
        have KB0 := Lib.hid S0.out.s.b
        have FINX := Lib.hid (S0.out.place gr pr)
        clear hu0 s0
        have c0 := KA0.out.cell 0
        have z0 := KA0.out.lt
        have f0 := KA0.out.frozen 0
        simp [ovC] at c0
        refine wpAnyH_ready (rs := [10]) (by kernel_rfl) (by simp) ?_
        refine AllReadyH.cons rfl (fun K hK => ?_) AllReadyH.nil
        go_simp
        have F1 := Lib.hid (F0.out.set (p := ⟨ga, 0, none⟩) (.inr (.inl rfl)) (.int .u64 gr))
        refine hK.out _ _ F1.out (fun s1 => ?_)
        clear hK K c0 z0 f0
        have KA1 := Lib.hid (KA0.out.set_ 0 (.int .u64 gr))
        have KB1 := Lib.hid (KB0.out.far (p := ⟨ga, 0, none⟩) (by show gb ≠ ga; have := S0.out.s.lt; omega) (.int .u64 gr))
        refine wpAnyH_take (i := 11) (oi := ⟨_, _, _, _, _, _⟩) (v := .pointer (some ⟨ga, 2, none⟩)) rfl (by kernel_rfl) (by kernel_rfl) (by kernel_rfl) (fun _ _ _ h => h) (Or.inl ⟨by rfl, fun w' hS => by go_simp⟩) s1 ?_
        simp only [List.getElem_toArray, List.getElem_cons_succ, List.getElem_cons_zero, Act.put, List.setIfInBounds_toArray, List.set_cons_zero, List.set_cons_succ]
        have c0 := KA1.out.cell 2
        have z0 := KA1.out.lt
        have f0 := KA1.out.frozen 2
        simp [ovC] at c0
        refine wpAnyH_ready (rs := [12]) (by kernel_rfl) (by simp) ?_
        refine AllReadyH.cons rfl (fun K hK => ?_) AllReadyH.nil
        go_simp
        have F2 := Lib.hid (F1.out.set (p := ⟨ga, 2, none⟩) (.inr (.inl rfl)) (.int .u8 pr))
        refine hK.out _ _ F2.out (fun s2 => ?_)
        clear hK K c0 z0 f0
        have KA2 := Lib.hid (KA1.out.set_ 2 (.int .u8 pr))
        have KB2 := Lib.hid (KB1.out.far (p := ⟨ga, 2, none⟩) (by show gb ≠ ga; have := S0.out.s.lt; omega) (.int .u8 pr))
        refine wpAnyH_take (i := 13) (oi := ⟨_, _, _, _, _, _⟩) (v := .pointer (some ⟨gb, 0, none⟩)) rfl (by kernel_rfl) (by kernel_rfl) (by kernel_rfl) (fun _ _ _ h => h) (Or.inl ⟨by rfl, fun w' hS => by go_simp⟩) s2 ?_
        simp only [List.getElem_toArray, List.getElem_cons_succ, List.getElem_cons_zero, Act.put, List.setIfInBounds_toArray, List.set_cons_zero, List.set_cons_succ]
        refine wpAnyH_take (i := 14) (oi := ⟨_, _, _, _, _, _⟩) (v := .pointer (some ⟨gb, 0, none⟩)) rfl (by kernel_rfl) (by kernel_rfl) (by kernel_rfl) (fun _ _ _ h => h) (Or.inl ⟨by rfl, fun w' hS => by go_simp⟩) s2 ?_
        simp only [List.getElem_toArray, List.getElem_cons_succ, List.getElem_cons_zero, Act.put, List.setIfInBounds_toArray, List.set_cons_zero, List.set_cons_succ]
        have c0 := KB2.out.cell 0
        have z0 := KB2.out.lt
        have f0 := KB2.out.frozen 0
        simp [ovC] at c0
        refine wpAnyH_ready (rs := [15]) (by kernel_rfl) (by simp) ?_
        refine AllReadyH.cons rfl (fun K hK => ?_) AllReadyH.nil
        go_simp
        have F3 := Lib.hid (F2.out.set (p := ⟨gb, 0, none⟩) (.inr (.inr rfl)) (.int .u64 gr))
        refine hK.out _ _ F3.out (fun s3 => ?_)
        clear hK K c0 z0 f0
        have KB3 := Lib.hid (KB2.out.set_ 0 (.int .u64 gr))
        have KA3 := Lib.hid (KA2.out.far (p := ⟨gb, 0, none⟩) (by show ga ≠ gb; have := S0.out.s.lt; omega) (.int .u64 gr))
        refine wpAnyH_take (i := 16) (oi := ⟨_, _, _, _, _, _⟩) (v := .pointer (some ⟨gb, 2, none⟩)) rfl (by kernel_rfl) (by kernel_rfl) (by kernel_rfl) (fun _ _ _ h => h) (Or.inl ⟨by rfl, fun w' hS => by go_simp⟩) s3 ?_
        simp only [List.getElem_toArray, List.getElem_cons_succ, List.getElem_cons_zero, Act.put, List.setIfInBounds_toArray, List.set_cons_zero, List.set_cons_succ]
        have c0 := KB3.out.cell 2
        have z0 := KB3.out.lt
        have f0 := KB3.out.frozen 2
        simp [ovC] at c0
        refine wpAnyH_ready (rs := [17]) (by kernel_rfl) (by simp) ?_
        refine AllReadyH.cons rfl (fun K hK => ?_) AllReadyH.nil
        go_simp
        have F4 := Lib.hid (F3.out.set (p := ⟨gb, 2, none⟩) (.inr (.inr rfl)) (.int .u8 pr))
        refine hK.out _ _ F4.out (fun s4 => ?_)
        clear hK K c0 z0 f0
        have KB4 := Lib.hid (KB3.out.set_ 2 (.int .u8 pr))
        have KA4 := Lib.hid (KA3.out.far (p := ⟨gb, 2, none⟩) (by show ga ≠ gb; have := S0.out.s.lt; omega) (.int .u8 pr))
        refine wpAnyH_done (by kernel_rfl) ?_ _
        go_wp2_with fail
        go_meet
        exact Lib.hid (show FaX _ _ gh ga gb HC (adj ⟨false, id, gr, pr⟩ (cutO a)) (adj ⟨false, id, gr, pr⟩ (cutO b)) A1 c1 A2 c2 from FINX.out)
    case rest =>
      have M4 := hcut
      rename World => w4
      clear M3 kh kh0 khz hcut
      obtain ⟨H, hH⟩ : ∃ H : IH, H = ⟨fe, id, gr, pr⟩ := ⟨_, rfl⟩
      rw [← hH] at M4 HHC HHK
      obtain ⟨X, hX⟩ : ∃ X, X = adj H (cutO a) := ⟨_, rfl⟩
      obtain ⟨Y, hY⟩ : ∃ Y, Y = adj H (cutO b) := ⟨_, rfl⟩
      rw [← hX, ← hY] at M4
      have XOK := adj_ok HHK.out (HAB.out a (by simp)) hX
      have YOK := adj_ok HHK.out (HAB.out b (by simp)) hY
      have HXO := Lib.hid XOK
      have HYO := Lib.hid YOK
      clear hH hX hY HAB XOK YOK
      clear fe id gr pr
      obtain ⟨CA, hCA⟩ : ∃ C, C = ovC X A1 c1 := ⟨_, rfl⟩
      obtain ⟨CB, hCB⟩ : ∃ C, C = ovC Y A2 c2 := ⟨_, rfl⟩
      have HAS := Lib.hid (show (Tryd.prog.info? 27).map (·.size) = some CA.size by rw [hCA]; exact info_obj)
      have HBS := Lib.hid (show (Tryd.prog.info? 27).map (·.size) = some CB.size by rw [hCB]; exact info_obj)
      have HCA := Lib.hid hCA
      have HCB := Lib.hid hCB
      have HBG := Lib.hid (fun W' => (show Calls Tryd.prog 24 #[.agg HC] W' fun r w' => RetE W' w' (beginOk H) (beginB H) r from by rw [HHC.out]; exact (refBegin_any H W' ⟨HHK.out.id, HHK.out.gr⟩).mono fun r w' q => q.ret))
      have HNA := Lib.hid (fun W' (q : Rd W' A1 X.data) => (show Calls Tryd.prog 25 #[.agg HC, .agg CA] W' fun r w' => RetE W' w' (nextOk H X) (nextB H X) r from by rw [HHC.out, hCA]; exact (refNext_any H X A1 c1 W' HXO.out.1 q (by have := HXO.out.2.2.2; omega)).mono fun r w' q => q.ret))
      have HNB := Lib.hid (fun W' (q : Rd W' A2 Y.data) => (show Calls Tryd.prog 25 #[.agg HC, .agg CB] W' fun r w' => RetE W' w' (nextOk H Y) (nextB H Y) r from by rw [HHC.out, hCB]; exact (refNext_any H Y A2 c2 W' HYO.out.1 q (by have := HYO.out.2.2.2; omega)).mono fun r w' q => q.ret))
      obtain ⟨OK1, hK1⟩ : ∃ x, x = beginOk H := ⟨_, rfl⟩
      obtain ⟨OK2, hK2⟩ : ∃ x, x = nextOk H X := ⟨_, rfl⟩
      obtain ⟨OK3, hK3⟩ : ∃ x, x = nextOk H Y := ⟨_, rfl⟩
      rw [← hK1] at HBG
      rw [← hK2] at HNA
      rw [← hK3] at HNB
      have HK1 := Lib.hid hK1
      have HK2 := Lib.hid hK2
      have HK3 := Lib.hid hK3
      have KA4 := Lib.hid (show Blk w4 ga 27 CA by rw [hCA]; exact M4.out.s.a)
      have KB4 := Lib.hid (show Blk w4 gb 27 CB by rw [hCB]; exact M4.out.s.b)
      clear hCA hCB hK1 hK2 hK3
      go_wp2_with (first
        | refine wpList_load_row rfl 50 (.tmp 3) rfl gh rfl 50 HC (0, 0) _ M4.out.s.h Tryd.underlying50 rfl HHS.out ?_
        | refine wpList_load_row rfl 27 (.tmp 4) rfl ga rfl 27 CA (0, 0) _ KA4.out Tryd.underlying27 rfl HAS.out ?_
        | refine wpList_load_row rfl 27 (.tmp 5) rfl gb rfl 27 CB (0, 0) _ KB4.out Tryd.underlying27 rfl HBS.out ?_)
      refine (HBG.out w4).mono ?_
      intro e w5 q1
      obtain ⟨⟨PA, pc, n1, E1, rfl, y1, z1⟩, b5⟩ := q1
      have HY1 := Lib.hid y1
      have HZ1 := Lib.hid z1
      have B5 := Lib.hid b5
      have M5 := Lib.hid (M4.out.below b5)
      have KA5 := Lib.hid (KA4.out.below b5 KA4.out.lt)
      have KB5 := Lib.hid (KB4.out.below b5 KB4.out.lt)
      have HB4 := Lib.hid (show w.heap.size ≤ w4.heap.size from M4.out.s.bel.size)
      clear y1 z1 b5 KA4 KB4 HBG
      go_wp2_with (first
        | refine wpList_load_row rfl 50 (.tmp 3) rfl gh rfl 50 HC (0, 0) _ M5.out.s.h Tryd.underlying50 rfl HHS.out ?_
        | refine wpList_load_row rfl 27 (.tmp 4) rfl ga rfl 27 CA (0, 0) _ KA5.out Tryd.underlying27 rfl HAS.out ?_
        | refine wpList_load_row rfl 27 (.tmp 5) rfl gb rfl 27 CB (0, 0) _ KB5.out Tryd.underlying27 rfl HBS.out ?_)
      refine (HNA.out w5 (Rd.of_own M5.out.da)).mono ?_
      intro e w6 q2
      obtain ⟨⟨QA, qc, n2, E2, rfl, y2, z2⟩, b6⟩ := q2
      have HY2 := Lib.hid y2
      have HZ2 := Lib.hid z2
      have B6 := Lib.hid b6
      have M6 := Lib.hid (M5.out.below b6)
      have KA6 := Lib.hid (KA5.out.below b6 KA5.out.lt)
      have KB6 := Lib.hid (KB5.out.below b6 KB5.out.lt)
      have HB5 := Lib.hid (show w.heap.size ≤ w5.heap.size from M5.out.s.bel.size)
      clear y2 z2 b6 M5 KA5 KB5 HNA
      go_wp2_with (first
        | refine wpList_load_row rfl 50 (.tmp 3) rfl gh rfl 50 HC (0, 0) _ M6.out.s.h Tryd.underlying50 rfl HHS.out ?_
        | refine wpList_load_row rfl 27 (.tmp 4) rfl ga rfl 27 CA (0, 0) _ KA6.out Tryd.underlying27 rfl HAS.out ?_
        | refine wpList_load_row rfl 27 (.tmp 5) rfl gb rfl 27 CB (0, 0) _ KB6.out Tryd.underlying27 rfl HBS.out ?_)
      refine (HNB.out w6 (Rd.of_own M6.out.db)).mono ?_
      intro e w7 q3
      obtain ⟨⟨RA, rc, n3, E3, rfl, y3, z3⟩, b7⟩ := q3
      have HY3 := Lib.hid y3
      have HZ3 := Lib.hid z3
      have B7 := Lib.hid b7
      have M7 := Lib.hid (M6.out.below b7)
      have KA7 := Lib.hid (KA6.out.below b7 KA6.out.lt)
      have KB7 := Lib.hid (KB6.out.below b7 KB6.out.lt)
      have HB6 := Lib.hid (show w.heap.size ≤ w6.heap.size from M6.out.s.bel.size)
      clear y3 z3 b7 M6 KA6 KB6 HNB
      cases OK1 with
      | false =>
        have hz : (E1 != 0) = true := by simpa using HZ1.out rfl
        go_wp2_with fail
        show P9 _ _
        rw [HP.out]
        exact ⟨rfl, M7.out.s.bel⟩
      | true =>
        obtain ⟨rfl, rfl, p5⟩ := HY1.out rfl
        cases OK2 with
        | false =>
          have hz : (E2 != 0) = true := by simpa using HZ2.out rfl
          clear p5
          go_wp2_with fail
          show P9 _ _
          rw [HP.out]
          exact ⟨rfl, M7.out.s.bel⟩
        | true =>
          obtain ⟨rfl, rfl, p6⟩ := HY2.out rfl
          cases OK3 with
          | false =>
            have hz : (E3 != 0) = true := by simpa using HZ3.out rfl
            clear p5 p6
            go_wp2_with fail
            show P9 _ _
            rw [HP.out]
            exact ⟨rfl, M7.out.s.bel⟩
          | true =>
            obtain ⟨rfl, rfl, p7⟩ := HY3.out rfl
            obtain ⟨L1, hL1⟩ : ∃ l, l = beginB H := ⟨_, rfl⟩
            obtain ⟨L2, hL2⟩ : ∃ l, l = nextB H X := ⟨_, rfl⟩
            obtain ⟨L3, hL3⟩ : ∃ l, l = nextB H Y := ⟨_, rfl⟩
            rw [← hL1] at p5 ⊢
            rw [← hL2] at p6 ⊢
            rw [← hL3] at p7 ⊢
            have y1 := beginB_by HHK.out HK1.out.symm
            have y2 := nextB_by HK2.out.symm HXO.out.1 HXO.out.2.1 HXO.out.2.2.1
            have y3 := nextB_by HK3.out.symm HYO.out.1 HYO.out.2.1 HYO.out.2.2.1
            have RUN := fun (s : IRd) (n : Nat) (s1 : s.begun = false) (s2 : s.some_ = false) => falls_run (s := s) (n := n) HHK.out HK1.out.symm HK2.out.symm HK3.out.symm HXO.out.1 HYO.out.1 s1 s2
            rw [← hL1] at y1
            rw [← hL2] at y2
            rw [← hL3] at y3
            rw [← hL1, ← hL2, ← hL3] at RUN
            have HY1' := Lib.hid y1
            have HY2' := Lib.hid y2
            have HY3' := Lib.hid y3
            have HRUN := Lib.hid RUN
            have O1 := Lib.hid (show Own w7 w4.heap.size PA pc L1 from Own.below (Own.below p5 B6.out) B7.out)
            have B47 := Lib.hid ((B5.out.trans (B6.out.mono B5.out.size)).trans (B7.out.mono (Nat.le_trans B5.out.size B6.out.size)))
            have O2 := Lib.hid (Rd.below (Rd.of_own p6) B7.out)
            have O3 := Lib.hid (Rd.of_own p7)
            have HAP0 : ∀ k, (Value.slice PA L1.length pc).ownBlock = some k → ∀ ad, RA = some ad → ad.block ≠ k := fun k hk ad hA => by
              have l1 := OwnV.row_lt (show OwnV w5 w4.heap.size 5 1 PA pc L1.length (U8 L1) from p5) hk
              rcases OwnV.row_is (show OwnV w7 w6.heap.size 5 1 RA rc L3.length (U8 L3) from p7) with ⟨h, _⟩ | ⟨g, cur, h, hg, _, _⟩
              · rw [h] at hA; cases hA
              · rw [h] at hA
                injection hA with hA
                subst hA
                have := B6.out.size
                show g ≠ k
                omega
            have HAP := Lib.hid HAP0
            clear HAP0
            have k0 := KA7.out.cell 0
            have k1 := KA7.out.cell 1
            have kz := KA7.out.lt
            have j0 := KB7.out.cell 0
            have j1 := KB7.out.cell 1
            have jz := KB7.out.lt
            rw [HCA.out] at k0 k1
            rw [HCB.out] at j0 j1
            simp only [ovC, List.getElem?_toArray, List.getElem?_cons_zero, List.getElem?_cons_succ] at k0 k1 j0 j1
            obtain ⟨xg, hxg⟩ : ∃ v, v = X.grp := ⟨_, rfl⟩
            obtain ⟨xo, hxo⟩ : ∃ v, v = X.obj := ⟨_, rfl⟩
            obtain ⟨yg, hyg⟩ : ∃ v, v = Y.grp := ⟨_, rfl⟩
            obtain ⟨yo, hyo⟩ : ∃ v, v = Y.obj := ⟨_, rfl⟩
            rw [← hxg] at k0
            rw [← hxo] at k1
            rw [← hyg] at j0
            rw [← hyo] at j1
            rw [← hxg, ← hxo, ← hyg, ← hyo] at HRUN
            clear p5 p6 p7 hL1 hL2 hL3 y1 y2 y3 RUN hxg hxo hyg hyo B6 B7 HY1 HY2 HY3 HZ1 HZ2 HZ3
            go_upto_region 12 with (fail)
            go_cut [13] (fun v wx => v = .bool (lessI xg xo yg yo) ∧ wx = w7)
            case first =>
              by_cases h1 : xg < yg
              · have e1 : decide (xg < yg) = true := by simpa using h1
                have e2 := Lib.hid (show lessI xg xo yg yo = true by unfold lessI; rw [if_neg (by omega)]; exact e1)
                go_wp2_with fail
                go_meet
                exact ⟨by rw [e2.out], rfl⟩
              · have e1 : decide (xg < yg) = false := by simpa using h1
                by_cases h2 : xg = yg
                · subst h2
                  have e2 := Lib.hid (show lessI xg xo xg yo = decide (xo < yo) by unfold lessI; rw [if_pos rfl])
                  have e3 : (xg == xg) = true := by simp
                  go_wp2_with fail
                  go_meet
                  exact ⟨by rw [e2.out], rfl⟩
                · have e2 := Lib.hid (show lessI xg xo yg yo = false by unfold lessI; rw [if_neg h2]; exact e1)
                  have e3 : (xg == yg) = false := by simpa using h2
                  go_wp2_with fail
                  go_meet
                  exact ⟨by rw [e2.out], rfl⟩
            case rest =>
              obtain ⟨rfl, ew⟩ := hcut
              rw [ew]
              clear ew k0 k1 kz j0 j1 jz
              obtain ⟨LL, hLL⟩ : ∃ x, x = lessI xg xo yg yo := ⟨_, rfl⟩
              rw [← hLL] at HRUN
              rw [← hLL]
              clear hLL
              have NR := Lib.hid (NewR_any w7)
              go_wp2_with fail
              refine NR.out.mono ?_
              rintro e w8 ⟨gr, rfl, rb8, hgr, b8⟩
              have RB8 := Lib.hid rb8
              have HGR := Lib.hid (show w4.heap.size ≤ gr from Nat.le_trans B47.out.size hgr)
              have B48 := Lib.hid (B47.out.trans (b8.mono B47.out.size))
              have P8 := Lib.hid (Own.below O1.out b8)
              have Q8 := Lib.hid (Rd.below O2.out b8)
              have R8 := Lib.hid (Rd.below O3.out b8)
              obtain ⟨ZL, hZL⟩ : ∃ l, l = L1 ++ L2 := ⟨_, rfl⟩
              obtain ⟨ALL, hALL⟩ : ∃ l, l = ZL ++ L3 := ⟨_, rfl⟩
              have HZL := Lib.hid hZL
              have HALL := Lib.hid hALL
              have HZN := Lib.hid (show ZL.length ≤ 3000 by rw [hZL, List.length_append]; have := HY1'.out.2; have := HY2'.out.2; omega)
              have HAN := Lib.hid (show ALL.length ≤ 6000 by rw [hALL, List.length_append]; have := HZN.out; have := HY3'.out.2; omega)
              have HAB := Lib.hid (show Bytes ALL by rw [hALL, hZL]; exact Bytes.append (Bytes.append HY1'.out.1 HY2'.out.1) HY3'.out.1)
              rw [← hZL, ← hALL] at HRUN
              clear rb8 hgr b8 hZL hALL NR B47 O1 O2 O3 M7 KA7 KB7
              go_wp2_with (at_builtin
                           go_must (first
                             | (refine wpList_appI rfl (.tmp 95) (.tmp 96) rfl w4.heap.size (l := L1) (news := L2) ZL HZL.out rfl rfl P8.out Q8.out (by have := HY1'.out.2; have := HY2'.out.2; omega) B48.out.size ?_
                                intro A9 c9 w9 o9 g9 b9
                                have P9' := Lib.hid o9
                                have RB9 := Lib.hid (show RB w9 gr ird0 none 0 from RB8.out.grown g9 (fun e => own_ne P8.out RB8.out (by decide) gr e.symm rfl))
                                have B49 := Lib.hid (B48.out.trans b9)
                                have R9 := Lib.hid (show Rd w9 RA L3 from rd_grown R8.out g9 (fun k hk ad hA => HAP.out k hk ad hA))
                                clear o9 g9 b9)
                             | (refine wpList_appI rfl (.tmp 97) (.tmp 98) rfl w4.heap.size (l := ZL) (news := L3) ALL HALL.out rfl rfl P9'.out R9.out (by have := HZN.out; have := HY3'.out.2; omega) B49.out.size ?_
                                intro A10 c10 w10 o10 g10 b10
                                have P10 := Lib.hid o10
                                have RB10 := Lib.hid (show RB w10 gr ird0 none 0 from RB9.out.grown g10 (fun e => own_ne P9'.out RB9.out (by decide) gr e.symm rfl))
                                have B410 := Lib.hid (B49.out.trans b10)
                                clear o10 g10 b10)))
              have PT : Calls Tryd.prog 18 #[.pointer (some ⟨gr, 0, none⟩), .slice A10 ALL.length c10, .bool true] w10 fun r w' => PutTo w10 w' gr 0 (ALL.length + 5) none ALL true { ird0 with held := ALL } r := Put_any gr 0 c10 ird0 none 0 A10 ALL true w10 RB10.out (Own.nil _ _) rfl (Rd.of_own P10.out) Bytes.nil HAB.out (by have := HAN.out; simp [ird0]; omega) (Nat.zero_le _)
              refine PT.mono ?_
              intro e w11 hPT
              have f11 := hPT.fr
              obtain ⟨⟨oA, oc, rs, rfl, hmap, hos, hds, _⟩, _⟩ := hPT
              have B411 := Lib.hid (B410.out.trans (f11.below (by have := B410.out.size; omega) (fun b hb e => by have := HGR.out; rcases e with e | e; omega; cases e)))
              have M11 := Lib.hid (M4.out.below B411.out)
              have HRN := HRUN.out { ird0 with held := ALL } ALL.length rfl rfl
              clear PT f11 P8 Q8 R8 RB8 RB9 RB10 P9' P10 R9 B48 B49 B410 HRUN
              cases LL with
              | true =>
                obtain ⟨e1, e2⟩ := HRN.1 rfl
                rw [e1] at hmap
                rw [e2, show settleE 0 true = 0 from rfl]
                have HM := Lib.hid hmap
                have HOS := Lib.hid hos
                have HDS := Lib.hid hds
                have KA := Lib.hid (show Blk w11 ga 27 #[.int .u64 X.grp, .int .u64 X.obj, .int .u8 X.prio, .bool X.gram, .slice A1 X.data.length c1] from M11.out.s.a)
                have KB := Lib.hid (show Blk w11 gb 27 #[.int .u64 Y.grp, .int .u64 Y.obj, .int .u8 Y.prio, .bool Y.gram, .slice A2 Y.data.length c2] from M11.out.s.b)
                clear hmap hos hds HRN e1 e2
                have k0 := KA.out.cell 0
                have k1 := KA.out.cell 1
                have k2 := KA.out.cell 2
                have k3 := KA.out.cell 3
                have k4 := KA.out.cell 4
                have kz := KA.out.lt
                have j0 := KB.out.cell 0
                have j1 := KB.out.cell 1
                have j2 := KB.out.cell 2
                have j3 := KB.out.cell 3
                have j4 := KB.out.cell 4
                have jz := KB.out.lt
                simp only [List.getElem?_toArray, List.getElem?_cons_zero, List.getElem?_cons_succ] at k0 k1 k2 k3 k4 j0 j1 j2 j3 j4
                obtain ⟨w12, hw12⟩ : ∃ v, v = w11.alloc (.cells #[.int .u64 X.grp, .int .u64 X.obj, .int .u8 X.prio, .bool X.gram, .slice A1 X.data.length c1, .int .u64 Y.grp, .int .u64 Y.obj, .int .u8 Y.prio, .bool Y.gram, .slice A2 Y.data.length c2] 27) := ⟨_, rfl⟩
                have ba : Below w11.heap.size w11 w12 := by rw [hw12]; exact (Below.refl _ _).alloc (Nat.le_refl _) _
                have kk : Blk w12 w11.heap.size 27 #[.int .u64 X.grp, .int .u64 X.obj, .int .u8 X.prio, .bool X.gram, .slice A1 X.data.length c1, .int .u64 Y.grp, .int .u64 Y.obj, .int .u8 Y.prio, .bool Y.gram, .slice A2 Y.data.length c2] := by rw [hw12]; exact Blk.new _ _ _
                have HW12 := Lib.hid hw12
                have M12 := M11.out.below ba
                have SM := Lib.hid (same_of (oc := oc) (d := 2) (xs := rs) (ys := [⟨X, A1, c1⟩, ⟨Y, A2, c2⟩]) (RdF.below (OwnF.reads HOS.out) ba) (rdf_two' kk rfl) HM.out (fun x hx => ⟨Rd.below (Rd.of_own (HDS.out x hx)) ba, by
                  have hm : x.o ∈ [X, Y] := by rw [← HM.out]; exact List.mem_map_of_mem hx
                  rcases List.mem_cons.1 hm with e | hm
                  · rw [e]; exact HXO.out.2.2.1
                  · rw [List.mem_singleton] at hm; rw [hm]; exact HYO.out.2.2.1⟩) (fun y hy => by
                  rcases List.mem_cons.1 hy with rfl | hy
                  · exact Rd.of_own M12.da
                  · rw [List.mem_singleton] at hy; subst hy; exact Rd.of_own M12.db) (by have := congrArg List.length HM.out; simp at this; omega))
                have HB12 := Lib.hid M12.s.bel
                clear hw12 ba kk M12
                go_wp2_with fail
                rw [← HW12.out]
                refine SM.out.mono ?_
                rintro e w13 ⟨rfl, b13⟩
                have HB13 := Lib.hid (HB12.out.trans (b13.mono HB12.out.size))
                clear b13 SM k0 k1 k2 k3 k4 kz j0 j1 j2 j3 j4 jz
                go_wp2_with fail
                show P9 _ _
                rw [HP.out]
                exact ⟨rfl, HB13.out⟩
              | false =>
                obtain ⟨e1, e2⟩ := HRN.2 rfl
                rw [e1] at hmap
                rw [e2, show settleE 4 true = 4 from rfl]
                have HM := Lib.hid hmap
                have HOS := Lib.hid hos
                have HDS := Lib.hid hds
                have KA := Lib.hid (show Blk w11 ga 27 #[.int .u64 X.grp, .int .u64 X.obj, .int .u8 X.prio, .bool X.gram, .slice A1 X.data.length c1] from M11.out.s.a)
                clear hmap hos hds HRN e1 e2
                have k0 := KA.out.cell 0
                have k1 := KA.out.cell 1
                have k2 := KA.out.cell 2
                have k3 := KA.out.cell 3
                have k4 := KA.out.cell 4
                have kz := KA.out.lt
                simp only [List.getElem?_toArray, List.getElem?_cons_zero, List.getElem?_cons_succ] at k0 k1 k2 k3 k4
                obtain ⟨w12, hw12⟩ : ∃ v, v = w11.alloc (.cells #[.int .u64 X.grp, .int .u64 X.obj, .int .u8 X.prio, .bool X.gram, .slice A1 X.data.length c1] 27) := ⟨_, rfl⟩
                have ba : Below w11.heap.size w11 w12 := by rw [hw12]; exact (Below.refl _ _).alloc (Nat.le_refl _) _
                have kk : Blk w12 w11.heap.size 27 (ovC X A1 c1) := by rw [hw12]; exact Blk.new _ _ _
                have HW12 := Lib.hid hw12
                have M12 := M11.out.below ba
                have SM := Lib.hid (same_of (oc := oc) (d := 1) (xs := rs) (ys := [⟨X, A1, c1⟩]) (RdF.below (OwnF.reads HOS.out) ba) (rdf_one (x := ⟨X, A1, c1⟩) kk) HM.out (fun x hx => ⟨Rd.below (Rd.of_own (HDS.out x hx)) ba, by
                  have hm : x.o ∈ [X] := by rw [← HM.out]; exact List.mem_map_of_mem hx
                  rw [List.mem_singleton] at hm; rw [hm]; exact HXO.out.2.2.1⟩) (fun y hy => by
                  rw [List.mem_singleton] at hy; subst hy; exact Rd.of_own M12.da) (by have := congrArg List.length HM.out; simp at this; omega))
                have HB12 := Lib.hid M12.s.bel
                clear hw12 ba kk M12
                go_wp2_with fail
                rw [← HW12.out]
                refine SM.out.mono ?_
                rintro e w13 ⟨rfl, b13⟩
                have HB13 := Lib.hid (HB12.out.trans (b13.mono HB12.out.size))
                clear b13 SM k0 k1 k2 k3 k4 kz
                go_wp2_with fail
                show P9 _ _
                rw [HP.out]
                exact ⟨rfl, HB13.out⟩
end Go.Proofs.YtpaglcojbcndoaaDoor
