/-
  The reference's Next, for every head and object (made by mkItemS.py).
-/
import Derived.Test.YtpaglcojbcndoaaDoorItemN
import Derived.Deep.RegionHeld
namespace Go.Proofs.YtpaglcojbcndoaaDoor
open Go.RowKit
set_option linter.unusedVariables false
set_option linter.unusedSimpArgs false
def nextOk (h : IH) (o : OV) : Bool := decide (o.data.length ≤ 2048) && (encI [o.grp, o.obj] && (!o.gram && (h.fe || (decide (o.grp = h.gr) && decide (o.prio = h.pr)))))
def nextB (h : IH) (o : OV) : List Int := if h.fe then iencs [o.grp, o.obj] ++ [o.prio] ++ vtext o.data else iencs [o.obj] ++ vtext o.data
/-- What Next answers. -/
structure NxtTo (w w' : World) (h : IH) (o : OV) (r : Ending) : Prop where
  ok : nextOk h o = true → ∃ A' c', r = .returned (.tuple #[.slice A' (nextB h o).length c', .int .i64 0]) ∧ Own w' w.heap.size A' c' (nextB h o)
  no : nextOk h o = false → r = .returned (.tuple #[.slice none 0 0, .int .i64 (if 2048 < o.data.length then 3 else 4)])
  bel : Below w.heap.size w w'
theorem vtext_len (d : List Int) (h : d.length ≤ 1000000) : (vtext d).length ≤ d.length + 8 := by
  have := (venc_le (d.length : Int) (by omega) (by omega)).2.1
  unfold vtext
  rw [List.length_append]
  omega
set_option maxHeartbeats 6400000 in
set_option maxRecDepth 100000 in
theorem refNext_any (h : IH) (o : OV) (A : Option Addr) (c : Nat) (w : World) (h0 : 0 ≤ o.grp ∧ 0 ≤ o.obj) (hd : Rd w A o.data) (hl : o.data.length ≤ 1000000) :
    Calls Tryd.prog 25 #[.agg (ihC h), .agg (ovC o A c)] w fun r w' => NxtTo w w' h o r := by
  obtain ⟨P9, hP9⟩ : ∃ P9 : World → Ending → Prop, P9 = fun w' r => NxtTo w w' h o r := ⟨_, rfl⟩
  have HP := Lib.hid hP9
  rw [show (fun r w' => NxtTo w w' h o r) = fun r w' => P9 w' r by rw [hP9]]
  obtain ⟨OK, hOK⟩ : ∃ b, b = nextOk h o := ⟨_, rfl⟩
  obtain ⟨YB, hYB⟩ : ∃ b, b = nextB h o := ⟨_, rfl⟩
  have HOK := Lib.hid hOK
  have HYB := Lib.hid hYB
  obtain ⟨fe, id, gr, pr⟩ := h
  obtain ⟨grp, obj, prio, gram, data⟩ := o
  simp only at h0 hd hl
  unfold nextOk at hOK
  unfold nextB at hYB
  unfold ihC ovC
  simp only at hOK hYB ⊢
  obtain ⟨W, hW⟩ : ∃ W, W = (w.alloc (.cells #[.bool fe, .int .u64 id, .int .u64 gr, .int .u8 pr] 50)).alloc (.cells #[.int .u64 grp, .int .u64 obj, .int .u8 prio, .bool gram, .slice A data.length c] 27) := ⟨_, rfl⟩
  have bw : Below w.heap.size w W := by rw [hW]; exact ((Below.refl _ _).alloc (Nat.le_refl _) _).alloc (by simp) _
  obtain ⟨gh, hgh⟩ : ∃ g, g = w.heap.size := ⟨_, rfl⟩
  obtain ⟨go, hgo⟩ : ∃ g, g = w.heap.size + 1 := ⟨_, rfl⟩
  have KH := Lib.hid (show Blk W gh 50 #[.bool fe, .int .u64 id, .int .u64 gr, .int .u8 pr] by rw [hW, hgh]; exact (Blk.new _ _ _).alloc _)
  have KO := Lib.hid (show Blk W go 27 #[.int .u64 grp, .int .u64 obj, .int .u8 prio, .bool gram, .slice A data.length c] by
    rw [hW, hgo]
    have := Blk.new (w.alloc (.cells #[.bool fe, .int .u64 id, .int .u64 gr, .int .u8 pr] 50)) 27 #[.int .u64 grp, .int .u64 obj, .int .u8 prio, .bool gram, .slice A data.length c]
    simpa using this)
  have BW := Lib.hid bw
  have HW := Lib.hid hW
  have HG := Lib.hid (And.intro hgh hgo)
  have HD := Lib.hid (Rd.below hd bw)
  have NIL : ∀ wx (hb : Below w.heap.size w wx) (x : Int), x = (if 2048 < data.length then 3 else 4) → OK = false → NxtTo w wx ⟨fe, id, gr, pr⟩ ⟨grp, obj, prio, gram, data⟩ (.returned (.tuple #[.slice none 0 0, .int .i64 x])) := fun wx hb x hx hn =>
    ⟨fun h => (by rw [← HOK.out, hn] at h; cases h), fun _ => (by rw [hx]), hb⟩
  have YES : ∀ wx (hb : Below w.heap.size w wx) A' c' (o : Own wx w.heap.size A' c' YB) {n : Nat}, n = YB.length → OK = true → NxtTo w wx ⟨fe, id, gr, pr⟩ ⟨grp, obj, prio, gram, data⟩ (.returned (.tuple #[.slice A' n c', .int .i64 0])) := fun wx hb A' c' o n hn' hn =>
    ⟨fun h => ⟨A', c', by rw [hn', ← HYB.out], by rw [← HYB.out]; exact o⟩, fun h => (by rw [← HOK.out, hn] at h; cases h), hb⟩
  have HNIL := Lib.hid @NIL
  have HYES := Lib.hid @YES
  obtain ⟨EN, hEN⟩ : ∃ b, b = encI [grp, obj] := ⟨_, rfl⟩
  rw [← hEN] at hOK
  have HEN := Lib.hid hEN
  have HOK2 := Lib.hid hOK
  have HVL := Lib.hid (vtext_len data hl)
  have HENA := Lib.hid (show EN = true → InI grp ∧ InI obj from fun e => by
    have := encI_all (l := [grp, obj]) (by rw [← hEN]; exact e) (by intro x hx; simp at hx; omega)
    exact ⟨this grp (by simp), this obj (by simp)⟩)
  have H0 := Lib.hid h0
  have k4 := KO.out.cell 4
  have kz := KO.out.lt
  simp only [List.getElem?_toArray, List.getElem?_cons_zero, List.getElem?_cons_succ] at k4
  clear bw hW hgh hgo hP9 NIL YES hd hOK hEN h0
  go_enter Tryd.func25, Tryd.ntmps25
  go_upto_region 1 with (fail)
  rw [← HW.out]
  rw [← HG.out.2, ← HG.out.1]
  by_cases hlen : 2048 < data.length
  · have hg : decide ((2048 : Int) < (data.length : Int)) = true := by simp; omega
    have HO := Lib.hid (show OK = false by rw [HOK2.out]; simp; omega)
    have HL2 := Lib.hid hlen
    go_wp2_with fail
    show P9 _ _
    rw [HP.out]
    exact HNIL.out _ BW.out _ (by rw [if_pos HL2.out]) HO.out
  · have hg : decide ((2048 : Int) < (data.length : Int)) = false := by simp; omega
    have HL2 := Lib.hid (show data.length ≤ 2048 by omega)
    have HE4 := Lib.hid (show (4 : Int) = if 2048 < data.length then 3 else 4 by rw [if_neg hlen])
    have hdl : decide (data.length ≤ 2048) = true := by simp; omega
    rw [hdl, Bool.true_and] at HOK2
    obtain ⟨W2, hW2⟩ : ∃ W2, W2 = W.alloc (.cells #[.int .u64 grp, .int .u64 obj] 22) := ⟨_, rfl⟩
    have b2 : Below W.heap.size W W2 := by rw [hW2]; exact (Below.refl _ _).alloc (Nat.le_refl _) _
    have CN := Lib.hid (refNumsI (some ⟨W.heap.size, 0, none⟩) 2 [grp, obj] W2 (by rw [hW2]; exact rdlitI W [grp, obj] (Nat.le_of_ble_eq_true rfl)) (Nat.le_of_ble_eq_true rfl) (by intro x hx; have := H0.out; simp at hx; omega))
    have B2 := Lib.hid b2
    have HW2 := Lib.hid hW2
    clear hlen hdl b2 hW2
    have k0 := KO.out.cell 0
    have k1 := KO.out.cell 1
    have kz := KO.out.lt
    simp only [List.getElem?_toArray, List.getElem?_cons_zero, List.getElem?_cons_succ] at k0 k1
    go_upto_region 3 with (fail)
    clear k4
    go_wp2_with fail
    rw [← HW2.out]
    refine CN.out.mono ?_
    rintro e w3 hn
    have B3 := Lib.hid (B2.out.trans (hn.bel.mono B2.out.size))
    have KO3 := Lib.hid (KO.out.below B3.out KO.out.lt)
    have KH3 := Lib.hid (KH.out.below B3.out KH.out.lt)
    have BW3 := Lib.hid (BW.out.trans (B3.out.mono BW.out.size))
    clear k0 k1 kz CN
    cases EN with
    | false =>
      obtain rfl := hn.no HEN.out.symm
      have HO := Lib.hid (show OK = false by rw [HOK2.out]; rfl)
      clear hn
      go_wp2_with fail
      show P9 _ _
      rw [HP.out]
      exact HNIL.out _ BW3.out _ HE4.out HO.out
    | true =>
      obtain ⟨A3, c3, rfl, o3⟩ := hn.ok HEN.out.symm
      obtain ⟨NB, hNB⟩ : ∃ NB, NB = iencs [grp, obj] := ⟨_, rfl⟩
      rw [← hNB] at o3 ⊢
      have HNB := Lib.hid hNB
      have HII := Lib.hid (HENA.out rfl)
      have HNL := Lib.hid (show NB.length ≤ 16 by
        rw [hNB]
        have := iencs_len (l := [grp, obj]) (by intro x hx; simp at hx; rcases hx with rfl | rfl; exact HII.out.1; exact HII.out.2)
        simp only [List.length_cons, List.length_nil] at this
        omega)
      rw [Bool.true_and] at HOK2
      clear hn hNB o3
      have k3 := KO3.out.cell 3
      have kz := KO3.out.lt
      simp only [List.getElem?_toArray, List.getElem?_cons_zero, List.getElem?_cons_succ] at k3
      cases gram with
      | true =>
        have HO := Lib.hid (show OK = false by rw [HOK2.out]; rfl)
        go_wp2_with fail
        show P9 _ _
        rw [HP.out]
        exact HNIL.out _ BW3.out _ HE4.out HO.out
      | false =>
        rw [Bool.not_false, Bool.true_and] at HOK2
        have h0 := KH3.out.cell 0
        have hz := KH3.out.lt
        simp only [List.getElem?_toArray, List.getElem?_cons_zero, List.getElem?_cons_succ] at h0
        cases fe with
        | true =>
          have HO := Lib.hid (show OK = true by rw [HOK2.out]; rfl)
          obtain ⟨W4, hW4⟩ : ∃ W4, W4 = w3.alloc (.cells #[.int .u64 grp, .int .u64 obj] 22) := ⟨_, rfl⟩
          have b4 : Below w3.heap.size w3 W4 := by rw [hW4]; exact (Below.refl _ _).alloc (Nat.le_refl _) _
          have CN := Lib.hid (refNumsI (some ⟨w3.heap.size, 0, none⟩) 2 [grp, obj] W4 (by rw [hW4]; exact rdlitI w3 [grp, obj] (Nat.le_of_ble_eq_true rfl)) (Nat.le_of_ble_eq_true rfl) (by intro x hx; have := H0.out; simp at hx; omega))
          have B4 := Lib.hid (B3.out.trans (b4.mono B3.out.size))
          have HW4 := Lib.hid hW4
          clear b4 hW4
          have k0 := KO3.out.cell 0
          have k1 := KO3.out.cell 1
          have kz := KO3.out.lt
          simp only [List.getElem?_toArray, List.getElem?_cons_zero, List.getElem?_cons_succ] at k0 k1
          go_upto_region 7 with (fail)
          clear k3 h0 hz
          go_wp2_with fail
          rw [← HW4.out]
          refine CN.out.mono ?_
          rintro e w5 hn
          obtain ⟨A5, c5, rfl, o5⟩ := hn.ok HEN.out.symm
          rw [← HNB.out] at o5 ⊢
          have B5 := Lib.hid (B4.out.trans (hn.bel.mono B4.out.size))
          have O5 := Lib.hid (Own.base_leI o5 B4.out.size)
          obtain ⟨Y, hY⟩ : ∃ Y, Y = NB ++ [prio] := ⟨_, rfl⟩
          obtain ⟨X, hX⟩ : ∃ X, X = Y ++ vtext data := ⟨_, rfl⟩
          have HY := Lib.hid hY
          have HX := Lib.hid hX
          have HYB2 := Lib.hid (show YB = X by rw [hYB, hX, hY, HNB.out]; rfl)
          clear k0 k1 kz CN hn o5 hY hX hYB
          go_upto_region 8 with (fail)
          refine wp_region_held_drew (S := fun wv => Below W.heap.size W wv) (by kernel_rfl) B5.out.drew (fun s0 => ?_)
          refine wpAnyH_take (i := 0) (oi := ⟨_, _, _, _, _, _⟩) (v := .slice A5 NB.length c5) rfl (by kernel_rfl) (by kernel_rfl) (by kernel_rfl) (fun _ _ _ h => h) (Or.inl ⟨by rfl, fun w' hS => by go_simp⟩) s0 ?_
          simp only [List.getElem_toArray, List.getElem_cons_succ, List.getElem_cons_zero, Act.put, List.setIfInBounds_toArray, List.set_cons_zero, List.set_cons_succ]
          refine wpAnyH_take (i := 1) (oi := ⟨_, _, _, _, _, _⟩) (v := .pointer (some ⟨go, 2, none⟩)) rfl (by kernel_rfl) (by kernel_rfl) (by kernel_rfl) (fun _ _ _ h => h) (Or.inl ⟨by rfl, fun w' hS => by go_simp⟩) s0 ?_
          simp only [List.getElem_toArray, List.getElem_cons_succ, List.getElem_cons_zero, Act.put, List.setIfInBounds_toArray, List.set_cons_zero, List.set_cons_succ]
          refine wpAnyH_take (i := 2) (oi := ⟨_, _, _, _, _, _⟩) (v := .int .u8 prio) rfl (by kernel_rfl) (by kernel_rfl) (by kernel_rfl) (fun _ _ _ h => h) (Or.inl ⟨by rfl, fun w' hS => by have kk := KO.out.below hS KO.out.lt; have c0 := kk.cell 2; have z0 := kk.lt; simp only [List.getElem?_toArray, List.getElem?_cons_zero, List.getElem?_cons_succ] at c0; go_simp⟩) s0 ?_
          simp only [List.getElem_toArray, List.getElem_cons_succ, List.getElem_cons_zero, Act.put, List.setIfInBounds_toArray, List.set_cons_zero, List.set_cons_succ]
          refine wpAnyH_take (i := 5) (oi := ⟨_, _, _, _, _, _⟩) (v := .pointer (some ⟨go, 4, none⟩)) rfl (by kernel_rfl) (by kernel_rfl) (by kernel_rfl) (fun _ _ _ h => h) (Or.inl ⟨by rfl, fun w' hS => by go_simp⟩) s0 ?_
          simp only [List.getElem_toArray, List.getElem_cons_succ, List.getElem_cons_zero, Act.put, List.setIfInBounds_toArray, List.set_cons_zero, List.set_cons_succ]
          refine wpAnyH_take (i := 6) (oi := ⟨_, _, _, _, _, _⟩) (v := .slice A data.length c) rfl (by kernel_rfl) (by kernel_rfl) (by kernel_rfl) (fun _ _ _ h => h) (Or.inl ⟨by rfl, fun w' hS => by have kk := KO.out.below hS KO.out.lt; have c0 := kk.cell 4; have z0 := kk.lt; simp only [List.getElem?_toArray, List.getElem?_cons_zero, List.getElem?_cons_succ] at c0; go_simp⟩) s0 ?_
          simp only [List.getElem_toArray, List.getElem_cons_succ, List.getElem_cons_zero, Act.put, List.setIfInBounds_toArray, List.set_cons_zero, List.set_cons_succ]
          have O6 := Lib.hid (OwnV.frm (show OwnV w5 W.heap.size 5 1 A5 c5 NB.length (U8 NB) from O5.out) ((Frm.refl w5 (fun _ => False)).drew) (fun _ _ h => h))
          generalize w5.drew = u0 at s0 O6 ⊢
          refine wpAnyH_ready (rs := [3]) (by kernel_rfl) (by simp) ?_
          refine AllReadyH.cons rfl (fun K hK => ?_) AllReadyH.nil
          go_simp
          have ba : Below u0.heap.size u0 (u0.alloc (.cells #[.int .u8 prio] 5)) := (Below.refl _ _).alloc (Nat.le_refl _) _
          have s1 := s0.trans (ba.mono s0.size)
          refine hK.out _ _ s1 (fun _ => ?_)
          clear hK K
          have R1 := Lib.hid (Rd.of_own (own_lit1I u0 prio (Nat.le_refl _)))
          have O7 := Lib.hid (show Own (u0.alloc (.cells #[.int .u8 prio] 5)) W.heap.size A5 c5 NB from Own.below O6.out ba)
          obtain ⟨u1, hu1⟩ : ∃ v, v = u0.alloc (.cells #[.int .u8 prio] 5) := ⟨_, rfl⟩
          obtain ⟨gA, hgA⟩ : ∃ v, v = u0.heap.size := ⟨_, rfl⟩
          rw [← hu1] at s1 R1 O7 ⊢
          rw [← hgA] at R1 ⊢
          clear hu1 hgA ba s0 O6
          refine wpAnyH_ready (rs := [4]) (by kernel_rfl) (by simp) ?_
          refine AllReadyH.cons rfl (fun K hK => ?_) AllReadyH.nil
          refine step_appI rfl (.tmp 46) (.tmp 49) rfl W.heap.size (l := NB) (news := [prio]) Y HY.out rfl rfl O7.out R1.out (by have := HNL.out; simp; omega) s1.size ?_
          intro A8 c8 u2 o8 b8
          have s2 := s1.trans b8
          refine hK.out _ _ s2 (fun _ => ?_)
          clear hK K s1
          have O8 := Lib.hid o8
          have RD2 := Lib.hid (Rd.below HD.out s2)
          have CT := Lib.hid (refTextI A c data u2 RD2.out (by have := HL2.out; omega))
          clear o8 b8
          refine wpAnyH_ready (rs := [7]) (by kernel_rfl) (by simp) ?_
          refine AllReadyH.cons rfl (fun K hK => ?_) AllReadyH.nil
          go_simp
          refine CT.out.mono ?_
          rintro e u3 ⟨A9, c9, rfl, o9, b9⟩
          have s3 := s2.trans (b9.mono s2.size)
          refine hK.out _ _ s3 (fun _ => ?_)
          clear hK K s2
          have R9 := Lib.hid (Rd.of_own o9)
          have O9 := Lib.hid (show Own u3 W.heap.size A8 c8 Y from Own.below O8.out b9)
          clear o9 b9 CT
          refine wpAnyH_ready (rs := [8]) (by kernel_rfl) (by simp) ?_
          refine AllReadyH.cons rfl (fun K hK => ?_) AllReadyH.nil
          refine step_appI rfl (.tmp 50) (.tmp 53) rfl W.heap.size (l := Y) (news := vtext data) X HX.out rfl rfl O9.out R9.out (by rw [HY.out, List.length_append]; have := HNL.out; have := HVL.out; simp; omega) s3.size ?_
          intro A4 c4 u4 o4 b4
          have s4 := s3.trans b4
          refine hK.out _ _ s4 (fun _ => ?_)
          clear hK K s3
          have O4 := Lib.hid o4
          have B4 := Lib.hid (BW.out.trans (s4.mono BW.out.size))
          clear o4 b4
          refine wpAnyH_take (i := 9) (oi := ⟨_, _, _, _, _, _⟩) (v := .slice A4 X.length c4) rfl (by kernel_rfl) (by kernel_rfl) (by kernel_rfl) (fun _ _ _ h => h) (Or.inl ⟨by rfl, fun w' hS => by go_simp⟩) s4 ?_
          simp only [List.getElem_toArray, List.getElem_cons_succ, List.getElem_cons_zero, Act.put, List.setIfInBounds_toArray, List.set_cons_zero, List.set_cons_succ]
          refine wpAnyH_take (i := 10) (oi := ⟨_, _, _, _, _, _⟩) (v := .int .i64 0) rfl (by kernel_rfl) (by kernel_rfl) (by kernel_rfl) (fun _ _ _ h => h) (Or.inl ⟨by rfl, fun w' hS => by go_simp⟩) s4 ?_
          simp only [List.getElem_toArray, List.getElem_cons_succ, List.getElem_cons_zero, Act.put, List.setIfInBounds_toArray, List.set_cons_zero, List.set_cons_succ]
          refine wpAnyH_done (by kernel_rfl) ?_ _
          go_wp2_with fail
          show P9 _ _
          rw [HP.out]
          exact HYES.out _ B4.out _ _ (show Own u4 w.heap.size A4 c4 YB by rw [HYB2.out]; exact Own.base_leI O4.out BW.out.size) (by rw [HYB2.out]) HO.out
        | false =>
          rw [Bool.false_or] at HOK2
          simp only [Bool.false_eq_true, if_false] at hYB
          have k0 := KO3.out.cell 0
          have k2 := KO3.out.cell 2
          have kz := KO3.out.lt
          simp only [List.getElem?_toArray, List.getElem?_cons_zero, List.getElem?_cons_succ] at k0 k2
          have h2 := KH3.out.cell 2
          have h3 := KH3.out.cell 3
          have hz := KH3.out.lt
          simp only [List.getElem?_toArray, List.getElem?_cons_zero, List.getElem?_cons_succ] at h2 h3
          by_cases hgg : grp = gr
          · by_cases hpp : prio = pr
            · subst hgg hpp
              have e1 : (grp != grp) = false := by simp
              have e2 : (prio != prio) = false := by simp
              have HO := Lib.hid (show OK = true by rw [HOK2.out]; simp)
              obtain ⟨W4, hW4⟩ : ∃ W4, W4 = w3.alloc (.cells #[.int .u64 obj] 22) := ⟨_, rfl⟩
              have b4 : Below w3.heap.size w3 W4 := by rw [hW4]; exact (Below.refl _ _).alloc (Nat.le_refl _) _
              have CN := Lib.hid (refNumsI (some ⟨w3.heap.size, 0, none⟩) 1 [obj] W4 (by rw [hW4]; exact rdlitI w3 [obj] (Nat.le_of_ble_eq_true rfl)) (Nat.le_of_ble_eq_true rfl) (by intro x hx; have := H0.out; simp at hx; omega))
              have B4 := Lib.hid (B3.out.trans (b4.mono B3.out.size))
              have HW4 := Lib.hid hW4
              have k1 := KO3.out.cell 1
              simp only [List.getElem?_toArray, List.getElem?_cons_zero, List.getElem?_cons_succ] at k1
              clear b4 hW4
              go_wp2_with fail
              rw [← HW4.out]
              refine CN.out.mono ?_
              rintro e w5 hn
              have HE1 : encI [obj] = true := encI_of (fun x hx => by simp at hx; subst hx; exact HII.out.2)
              obtain ⟨A5, c5, rfl, o5⟩ := hn.ok HE1
              obtain ⟨NO, hNO⟩ : ∃ NO, NO = iencs [obj] := ⟨_, rfl⟩
              rw [← hNO] at o5 hYB ⊢
              have HYB2 := Lib.hid hYB
              have HNO := Lib.hid (show NO.length ≤ 8 by
                rw [hNO]
                have := iencs_len (l := [obj]) (by intro x hx; simp at hx; subst hx; exact HII.out.2)
                simpa using this)
              have B5 := Lib.hid (B4.out.trans (hn.bel.mono B4.out.size))
              have O5 := Lib.hid (Own.base_leI o5 B4.out.size)
              have KO5 := Lib.hid (KO.out.below B5.out KO.out.lt)
              have CT := Lib.hid (refTextI A c data w5 (Rd.below HD.out B5.out) (by have := HL2.out; omega))
              clear k0 k1 k2 k3 kz h0 h2 h3 hz CN hn o5 hNO hYB e1 e2 HE1
              have k4 := KO5.out.cell 4
              have kz := KO5.out.lt
              simp only [List.getElem?_toArray, List.getElem?_cons_zero, List.getElem?_cons_succ] at k4
              go_wp2_with fail
              refine CT.out.mono ?_
              rintro e w6 ⟨A6, c6, rfl, o6, b6⟩
              have R6 := Lib.hid (Rd.of_own o6)
              have O6 := Lib.hid (show Own w6 W.heap.size A5 c5 NO from Own.below O5.out b6)
              have B6 := Lib.hid (B5.out.trans (b6.mono B5.out.size))
              clear o6 b6 CT k4 kz
              go_wp2_with (at_builtin
                           go_must (refine wpList_appI rfl (.tmp 76) (.tmp 79) rfl W.heap.size (l := NO) (news := vtext data) YB HYB2.out rfl rfl O6.out R6.out (by have := HNO.out; have := HVL.out; omega) B6.out.size ?_)
                           intro A4 c4 w4 o4 g4 b4
                           have O4 := Lib.hid o4
                           have B7 := Lib.hid (B6.out.trans b4)
                           clear o4 g4 b4)
              show P9 _ _
              rw [HP.out]
              exact HYES.out _ (BW.out.trans (B7.out.mono BW.out.size)) _ _ (Own.base_leI O4.out BW.out.size) rfl HO.out
            · have e1 : (grp != gr) = false := by simpa using hgg
              have e2 : (prio != pr) = true := by simpa using hpp
              have HO := Lib.hid (show OK = false by rw [HOK2.out]; simp [hpp])
              go_wp2_with fail
              show P9 _ _
              rw [HP.out]
              exact HNIL.out _ BW3.out _ HE4.out HO.out
          · have e1 : (grp != gr) = true := by simpa using hgg
            have HO := Lib.hid (show OK = false by rw [HOK2.out]; simp [hgg])
            go_wp2_with fail
            show P9 _ _
            rw [HP.out]
            exact HNIL.out _ BW3.out _ HE4.out HO.out
end Go.Proofs.YtpaglcojbcndoaaDoor
