/-
  item.Gram (made by mkItemB.py).
-/
import Derived.Test.YtpaglcojbcndoaaDoorItemA
import Derived.Deep.DeepCutAuto
import Derived.Deep.RegionHeld
import Derived.Deep.MidRow
namespace Go.Proofs.YtpaglcojbcndoaaDoor
open Go.RowKit
set_option linter.unusedVariables false
set_option linter.unusedSimpArgs false
theorem rdlitI (w : World) (l : List Int) (hm : l.length ≤ 1000) : RdI .u64 (w.alloc (.cells (IV .u64 l).toArray 22)) (some ⟨w.heap.size, 0, none⟩) l := by
  have h := Blk.own (base := w.heap.size) (Blk.new w 22 (IV .u64 l).toArray) (Nat.le_refl _) (by simp [maxLen, IV]; omega) (xs := IV .u64 l) (by simp)
  have := OwnV.reads (show OwnV _ w.heap.size 22 1 (some ⟨w.heap.size, 0, none⟩) (IV .u64 l).length (IV .u64 l).length (IV .u64 l) from h)
  unfold RdI
  rwa [show (IV .u64 l).length = l.length by simp [IV]] at this
theorem Own.base_leI {w : World} {base c b2 : Nat} {A : Option Addr} {l : List Int} (h : Own w base A c l) (hb : b2 ≤ base) : Own w b2 A c l := Own.base_le h hb
theorem own_lit1I (w : World) (x : Int) {base : Nat} (hb : base ≤ w.heap.size) : Own (w.alloc (.cells #[.int .u8 x] 5)) base (some ⟨w.heap.size, 0, none⟩) 1 [x] :=
  Own.new (l := [x]) (Blk.new w _ _) hb (by simp [maxLen])
/-- A box that stays. -/
structure Stay (W wr : World) (gm : Nat) (T : TypeId) (cs : Array Value) : Prop where
  box : Blk wr gm T cs
  bel : Below W.heap.size W wr
  lt : gm < W.heap.size
theorem Stay.app {W wr w' : World} {gm : Nat} {T : TypeId} {cs : Array Value} (h : Stay W wr gm T cs) (hb : Below W.heap.size wr w') : Stay W w' gm T cs :=
  ⟨h.box.below hb h.lt, h.bel.trans hb, h.lt⟩
theorem Stay.below {W wr w' : World} {gm : Nat} {T : TypeId} {cs : Array Value} (h : Stay W wr gm T cs) (hb : Below wr.heap.size wr w') : Stay W w' gm T cs := h.app (hb.mono h.bel.size)
/-- An object by value. -/
structure OV where
  grp : Int
  obj : Int
  prio : Int
  gram : Bool
  data : List Int
def ovC (o : OV) (A : Option Addr) (c : Nat) : Array Value := #[.int .u64 o.grp, .int .u64 o.obj, .int .u8 o.prio, .bool o.gram, .slice A o.data.length c]
def gramOk (al : Int) (o : OV) : Bool := decide (o.data.length ≤ 2048) && (encI [al, o.grp, o.obj] && o.gram)
def gramB (al : Int) (o : OV) : List Int := iencs [1, al, o.grp, o.obj] ++ [o.prio] ++ o.data
/-- What Gram answers. -/
structure GramTo (w w' : World) (al : Int) (o : OV) (r : Ending) : Prop where
  ok : gramOk al o = true → ∃ A' c', r = .returned (.tuple #[.slice A' (gramB al o).length c', .int .i64 0]) ∧ Own w' w.heap.size A' c' (gramB al o)
  no : gramOk al o = false → r = .returned (.tuple #[.slice none 0 0, .int .i64 (if 2048 < o.data.length then 3 else 4)])
  bel : Below w.heap.size w w'
set_option maxRecDepth 100000 in
set_option maxHeartbeats 3200000 in
theorem Gram_any (al : Int) (o : OV) (A : Option Addr) (c : Nat) (w : World) (ht : Tab w) (hd : Rd w A o.data) (hl : o.data.length ≤ 1000000) (h0 : 0 ≤ al ∧ 0 ≤ o.grp ∧ 0 ≤ o.obj) :
    Calls Tryd.prog 16 #[.int .u64 al, .agg (ovC o A c)] w fun r w' => GramTo w w' al o r := by
  obtain ⟨P9, hP9⟩ : ∃ P9 : World → Ending → Prop, P9 = fun w' r => GramTo w w' al o r := ⟨_, rfl⟩
  have HP := Lib.hid hP9
  rw [show (fun r w' => GramTo w w' al o r) = fun r w' => P9 w' r by rw [hP9]]
  obtain ⟨E, hE⟩ : ∃ E, E = encI [al, o.grp, o.obj] := ⟨_, rfl⟩
  have HIN0 := Lib.hid (show E = true → ∀ x ∈ [1, al, o.grp, o.obj], InI x from fun h x hx => by
    rw [hE] at h
    have h1 := encI_all h (by intro y hy; simp at hy; omega)
    rcases List.mem_cons.1 hx with rfl | hx
    · exact ⟨by decide, by decide⟩
    · exact h1 x hx)
  have HOK := Lib.hid (show gramOk al o = (decide (o.data.length ≤ 2048) && (E && o.gram)) by rw [hE]; rfl)
  obtain ⟨NB, hNB⟩ : ∃ NB, NB = iencs [1, al, o.grp, o.obj] := ⟨_, rfl⟩
  obtain ⟨Y, hY⟩ : ∃ Y, Y = NB ++ [o.prio] := ⟨_, rfl⟩
  obtain ⟨X, hX⟩ : ∃ X, X = Y ++ o.data := ⟨_, rfl⟩
  have HXE := Lib.hid (show X = gramB al o by rw [hX, hY, hNB]; rfl)
  have HNB := Lib.hid hNB
  have HY := Lib.hid hY
  have HX := Lib.hid hX
  obtain ⟨grp, obj, prio, gram, data⟩ := o
  simp only at hd hl h0 HIN0 HOK HNB HY HX hE
  unfold ovC
  simp only
  obtain ⟨W, hW⟩ : ∃ W, W = w.alloc (.cells #[.int .u64 grp, .int .u64 obj, .int .u8 prio, .bool gram, .slice A data.length c] 27) := ⟨_, rfl⟩
  have bw : Below w.heap.size w W := by rw [hW]; exact (Below.refl _ _).alloc (Nat.le_refl _) _
  have kw : Blk W w.heap.size 27 #[.int .u64 grp, .int .u64 obj, .int .u8 prio, .bool gram, .slice A data.length c] := by rw [hW]; exact Blk.new _ _ _
  obtain ⟨gm, hgm⟩ : ∃ g, g = w.heap.size := ⟨_, rfl⟩
  have HT := Lib.hid (ht.below bw)
  have HD := Lib.hid (Rd.below hd bw)
  have BW := Lib.hid bw
  have HW := Lib.hid hW
  have HG := Lib.hid hgm
  rw [← hgm] at kw
  have ST0 := Lib.hid (show Stay W W gm 27 #[.int .u64 grp, .int .u64 obj, .int .u8 prio, .bool gram, .slice A data.length c] from ⟨kw, Below.refl _ _, kw.lt⟩)
  have EN := Lib.hid (fun u (r : RdI .u64 u (some ⟨W.heap.size, 0, none⟩) [al, grp, obj]) => encodableI_any (some ⟨W.heap.size, 0, none⟩) 3 [al, grp, obj] u r (Nat.le_of_ble_eq_true rfl))
  rw [show encI [al, grp, obj] = E from hE.symm] at EN
  have k0 := kw.cell 0
  have k1 := kw.cell 1
  have k3 := kw.cell 3
  have k4 := kw.cell 4
  have zk := kw.lt
  simp only [List.getElem?_toArray, List.getElem?_cons_zero, List.getElem?_cons_succ] at k0 k1 k3 k4
  clear hP9 hE hNB hY hX hd ht bw hW kw hgm
  go_enter Tryd.func16, Tryd.ntmps16
  go_upto_region 1 with (fail)
  rw [← HW.out, ← HG.out]
  by_cases hlen : 2048 < data.length
  · have hg : decide ((2048 : Int) < (data.length : Int)) = true := by simp; omega
    have hno : gramOk al ⟨grp, obj, prio, gram, data⟩ = false := by rw [HOK.out]; simp; omega
    have HNO := Lib.hid hno
    have HL2 := Lib.hid hlen
    clear hno
    go_wp2_with fail
    show P9 _ _
    rw [HP.out]
    exact ⟨fun h => (by rw [HNO.out] at h; cases h), fun _ => (by rw [if_pos HL2.out]; rfl), BW.out⟩
  · have hg : decide ((2048 : Int) < (data.length : Int)) = false := by simp; omega
    have HL2 := Lib.hid hlen
    have HLD := Lib.hid (show data.length ≤ 2048 by omega)
    have ba : Below W.heap.size W (W.alloc (.cells #[.int .u64 al, .int .u64 grp, .int .u64 obj] 22)) := (Below.refl _ _).alloc (Nat.le_refl _) _
    have EN2 := Lib.hid (EN.out (W.alloc (.cells #[.int .u64 al, .int .u64 grp, .int .u64 obj] 22)) (rdlitI W [al, grp, obj] (Nat.le_of_ble_eq_true rfl)))
    have BA := Lib.hid ba
    clear hlen ba EN
    go_wp2_with fail
    refine EN2.out.mono ?_
    rintro e w2 ⟨rfl, hw2⟩
    have ST1 := Lib.hid (show Stay W w2 gm 27 #[.int .u64 grp, .int .u64 obj, .int .u8 prio, .bool gram, .slice A data.length c] by rw [← hw2]; exact ST0.out.below BA.out)
    have j3 := ST1.out.box.cell 3
    have zj := ST1.out.box.lt
    simp only [List.getElem?_toArray, List.getElem?_cons_zero, List.getElem?_cons_succ] at j3
    rw [← hw2] at ST1 j3 zj ⊢
    clear hw2 k0 k1 k3 k4 zk EN2
    cases E with
    | false =>
      have HNO := Lib.hid (show gramOk al ⟨grp, obj, prio, gram, data⟩ = false by rw [HOK.out]; simp)
      go_wp2_with fail
      show P9 _ _
      rw [HP.out]
      exact ⟨fun h => (by rw [HNO.out] at h; cases h), fun _ => (by rw [if_neg HL2.out]; rfl), BW.out.trans (ST1.out.bel.mono BW.out.size)⟩
    | true =>
      cases gram with
      | false =>
        have HNO := Lib.hid (show gramOk al ⟨grp, obj, prio, false, data⟩ = false by rw [HOK.out]; simp)
        go_wp2_with fail
        show P9 _ _
        rw [HP.out]
        exact ⟨fun h => (by rw [HNO.out] at h; cases h), fun _ => (by rw [if_neg HL2.out]; rfl), BW.out.trans (ST1.out.bel.mono BW.out.size)⟩
      | true =>
        have HYES := Lib.hid (show gramOk al ⟨grp, obj, prio, true, data⟩ = true by rw [HOK.out]; have := HLD.out; simp; omega)
        have HIN := Lib.hid (HIN0.out rfl)
        have HNL := Lib.hid (show NB.length ≤ 40 by rw [HNB.out]; have := iencs_len HIN.out; simp only [List.length_cons, List.length_nil] at this; omega)
        have HYL := Lib.hid (show Y.length ≤ 41 ∧ data.length ≤ 2048 by rw [HY.out, List.length_append]; have := HNL.out; have := HLD.out; simp; omega)
        clear HIN0
        go_wp2_with fail
        refine wp_region_held_drew (S := fun w' => Blk w' gm 27 #[.int .u64 grp, .int .u64 obj, .int .u8 prio, .bool true, .slice A data.length c]) (by kernel_rfl) ST1.out.box.drew (fun s0 => ?_)
        have ST2 := Lib.hid (ST1.out.below (Below.refl _ _).drew)
        generalize ((W.alloc (.cells #[.int .u64 al, .int .u64 grp, .int .u64 obj] 22)).drew) = u0 at s0 ST2 ⊢
        have ST0 := ST2
        clear ST2 ST1 j3 zj
        refine wpAnyH_take (i := 0) (oi := ⟨_, _, _, _, _, _⟩) (v := .int .u64 al) rfl (by kernel_rfl) (by kernel_rfl) (by kernel_rfl) (fun _ _ _ h => h) (Or.inl ⟨by rfl, fun w' hS => by go_simp⟩) s0 ?_
        simp only [Act.put, List.setIfInBounds_toArray, List.set_cons_zero, List.set_cons_succ]
        refine wpAnyH_take (i := 1) (oi := ⟨_, _, _, _, _, _⟩) (v := .pointer (some ⟨gm, 0, none⟩)) rfl (by kernel_rfl) (by kernel_rfl) (by kernel_rfl) (fun _ _ _ h => h) (Or.inl ⟨by rfl, fun w' hS => by go_simp⟩) s0 ?_
        simp only [Act.put, List.setIfInBounds_toArray, List.set_cons_zero, List.set_cons_succ]
        refine wpAnyH_take (i := 2) (oi := ⟨_, _, _, _, _, _⟩) (v := .pointer (some ⟨gm, 0, none⟩)) rfl (by kernel_rfl) (by kernel_rfl) (by kernel_rfl) (fun _ _ _ h => h) (Or.inl ⟨by rfl, fun w' hS => by go_simp⟩) s0 ?_
        simp only [Act.put, List.setIfInBounds_toArray, List.set_cons_zero, List.set_cons_succ]
        refine wpAnyH_take (i := 3) (oi := ⟨_, _, _, _, _, _⟩) (v := .int .u64 grp) rfl (by kernel_rfl) (by kernel_rfl) (by kernel_rfl) (fun _ _ _ h => h) (Or.inl ⟨by rfl, fun w' hS => by have c0 := (hS).cell 0; simp only [List.getElem?_toArray, List.getElem?_cons_zero, List.getElem?_cons_succ] at c0; go_simp⟩) s0 ?_
        simp only [Act.put, List.setIfInBounds_toArray, List.set_cons_zero, List.set_cons_succ]
        refine wpAnyH_take (i := 4) (oi := ⟨_, _, _, _, _, _⟩) (v := .pointer (some ⟨gm, 0, none⟩)) rfl (by kernel_rfl) (by kernel_rfl) (by kernel_rfl) (fun _ _ _ h => h) (Or.inl ⟨by rfl, fun w' hS => by go_simp⟩) s0 ?_
        simp only [Act.put, List.setIfInBounds_toArray, List.set_cons_zero, List.set_cons_succ]
        refine wpAnyH_take (i := 5) (oi := ⟨_, _, _, _, _, _⟩) (v := .pointer (some ⟨gm, 1, none⟩)) rfl (by kernel_rfl) (by kernel_rfl) (by kernel_rfl) (fun _ _ _ h => h) (Or.inl ⟨by rfl, fun w' hS => by go_simp⟩) s0 ?_
        simp only [Act.put, List.setIfInBounds_toArray, List.set_cons_zero, List.set_cons_succ]
        refine wpAnyH_take (i := 6) (oi := ⟨_, _, _, _, _, _⟩) (v := .int .u64 obj) rfl (by kernel_rfl) (by kernel_rfl) (by kernel_rfl) (fun _ _ _ h => h) (Or.inl ⟨by rfl, fun w' hS => by have c0 := (hS).cell 1; simp only [List.getElem?_toArray, List.getElem?_cons_zero, List.getElem?_cons_succ] at c0; go_simp⟩) s0 ?_
        simp only [Act.put, List.setIfInBounds_toArray, List.set_cons_zero, List.set_cons_succ]
        refine wpAnyH_take (i := 9) (oi := ⟨_, _, _, _, _, _⟩) (v := .pointer (some ⟨gm, 2, none⟩)) rfl (by kernel_rfl) (by kernel_rfl) (by kernel_rfl) (fun _ _ _ h => h) (Or.inl ⟨by rfl, fun w' hS => by go_simp⟩) s0 ?_
        simp only [Act.put, List.setIfInBounds_toArray, List.set_cons_zero, List.set_cons_succ]
        refine wpAnyH_take (i := 10) (oi := ⟨_, _, _, _, _, _⟩) (v := .int .u8 prio) rfl (by kernel_rfl) (by kernel_rfl) (by kernel_rfl) (fun _ _ _ h => h) (Or.inl ⟨by rfl, fun w' hS => by have c0 := (hS).cell 2; simp only [List.getElem?_toArray, List.getElem?_cons_zero, List.getElem?_cons_succ] at c0; go_simp⟩) s0 ?_
        simp only [Act.put, List.setIfInBounds_toArray, List.set_cons_zero, List.set_cons_succ]
        refine wpAnyH_ready (rs := [7, 11]) (by kernel_rfl) (by simp) ?_
        refine AllReadyH.cons rfl (fun K hK => ?_) (AllReadyH.cons rfl (fun K hK => ?_) AllReadyH.nil)
        · go_simp
          have hb : Below u0.heap.size u0 (u0.alloc (.cells #[.int .u64 1, .int .u64 al, .int .u64 grp, .int .u64 obj] 22)) := (Below.refl _ _).alloc (Nat.le_refl _) _
          refine hK.out _ _ (ST0.out.below hb).box (fun s1 => ?_)
          clear hK K
          obtain ⟨u1, hv⟩ : ∃ v, v = u0.alloc (.cells #[.int .u64 1, .int .u64 al, .int .u64 grp, .int .u64 obj] 22) := ⟨_, rfl⟩
          obtain ⟨gA, hg⟩ : ∃ g, g = u0.heap.size := ⟨_, rfl⟩
          have RA1 := Lib.hid (show RdI .u64 u1 (some ⟨gA, 0, none⟩) [1, al, grp, obj] by rw [hv, hg]; exact rdlitI u0 [1, al, grp, obj] (Nat.le_of_ble_eq_true rfl))
          rw [← hv] at hb s1
          have ST1 := Lib.hid (ST0.out.below hb)
          rw [← hv, ← hg]
          clear hv hg hb s0
          refine wpAnyH_ready (rs := [8, 11]) (by kernel_rfl) (by simp) ?_
          refine AllReadyH.cons rfl (fun K hK => ?_) (AllReadyH.cons rfl (fun K hK => ?_) AllReadyH.nil)
          · go_simp
            refine (numbers_any (some ⟨gA, 0, none⟩) 4 [1, al, grp, obj] u1 (HT.out.below ST1.out.bel) RA1.out (Nat.le_of_ble_eq_true rfl) HIN.out).mono ?_
            rintro e u2 ⟨nA, nc, rfl, oN, hb⟩
            rw [show iencs [1, al, grp, obj] = NB from HNB.out.symm] at oN ⊢
            refine hK.out _ _ (ST1.out.below hb).box (fun s2 => ?_)
            clear hK K
            have ON2 := Lib.hid (Own.base_leI oN ST1.out.bel.size)
            have ST2 := Lib.hid (ST1.out.below hb)
            have RA2 := Lib.hid (RdI.below RA1.out hb)
            clear oN hb s1
            refine wpAnyH_ready (rs := [11]) (by kernel_rfl) (by simp) ?_
            refine AllReadyH.cons rfl (fun K hK => ?_) AllReadyH.nil
            go_simp
            have hb : Below u2.heap.size u2 (u2.alloc (.cells #[.int .u8 prio] 5)) := (Below.refl _ _).alloc (Nat.le_refl _) _
            refine hK.out _ _ (ST2.out.below hb).box (fun s3 => ?_)
            clear hK K
            obtain ⟨u3, hv⟩ : ∃ v, v = u2.alloc (.cells #[.int .u8 prio] 5) := ⟨_, rfl⟩
            obtain ⟨gB, hg⟩ : ∃ g, g = u2.heap.size := ⟨_, rfl⟩
            have RB3 := Lib.hid (show Rd u3 (some ⟨gB, 0, none⟩) [prio] by rw [hv, hg]; exact Rd.of_own (own_lit1I u2 prio (Nat.le_refl _)))
            rw [← hv] at hb s3
            have ST3 := Lib.hid (ST2.out.below hb)
            have ON3 := Lib.hid (Own.below ON2.out hb)
            rw [← hv, ← hg]
            clear hv hg hb s2
            refine wpAnyH_ready (rs := [12]) (by kernel_rfl) (by simp) ?_
            refine AllReadyH.cons rfl (fun K hK => ?_) AllReadyH.nil
            refine step_appI rfl (.tmp 34) (.tmp 37) rfl W.heap.size (l := NB) (news := [prio]) Y HY.out rfl rfl ON3.out RB3.out (by have := HNL.out; simp; omega) ST3.out.bel.size ?_
            intro pA pc u9 o9 b9
            have ST9 := Lib.hid (ST3.out.app b9)
            have O9 := Lib.hid o9
            refine hK.out _ _ ST9.out.box (fun s9 => ?_)
            clear hK K o9 b9
            simp only [List.getElem_toArray, List.getElem_cons_succ, List.getElem_cons_zero, Act.put, List.setIfInBounds_toArray, List.set_cons_succ, List.set_cons_zero]
            refine wpAnyH_take (i := 13) (oi := ⟨_, _, _, _, _, _⟩) (v := .slice pA Y.length pc) rfl (by kernel_rfl) (by kernel_rfl) (by kernel_rfl) (fun _ _ _ h => h) (Or.inl ⟨by rfl, fun w' hS => by go_simp⟩) s9 ?_
            simp only [Act.put, List.setIfInBounds_toArray, List.set_cons_zero, List.set_cons_succ]
            refine wpAnyH_done (by kernel_rfl) ?_ _
            have c4 := ST9.out.box.cell 4
            have zc := ST9.out.box.lt
            simp only [List.getElem?_toArray, List.getElem?_cons_zero, List.getElem?_cons_succ] at c4
            go_wp2_with (at_builtin
                         go_must (refine wpList_appI rfl (.tmp 39) (.tmp 41) rfl W.heap.size (l := Y) (news := data) X HX.out rfl rfl O9.out (Rd.below HD.out ST9.out.bel) (by have := HYL.out; omega) ST9.out.bel.size ?_)
                         intro A10 c10 w10 o10 g10 b10
                         have O10 := Lib.hid o10
                         have B10 := Lib.hid (ST9.out.bel.trans b10)
                         clear o10 g10 b10)
            show P9 _ _
            rw [HP.out]
            exact ⟨fun _ => ⟨A10, c10, by rw [← HXE.out]; rfl, by rw [← HXE.out]; exact Own.base_leI O10.out BW.out.size⟩, fun h => (by rw [HYES.out] at h; cases h), BW.out.trans (B10.out.mono BW.out.size)⟩
          · go_simp
            have hb : Below u1.heap.size u1 (u1.alloc (.cells #[.int .u8 prio] 5)) := (Below.refl _ _).alloc (Nat.le_refl _) _
            refine hK.out _ _ (ST1.out.below hb).box (fun s2 => ?_)
            clear hK K
            obtain ⟨u2, hv⟩ : ∃ v, v = u1.alloc (.cells #[.int .u8 prio] 5) := ⟨_, rfl⟩
            obtain ⟨gB, hg⟩ : ∃ g, g = u1.heap.size := ⟨_, rfl⟩
            have RB2 := Lib.hid (show Rd u2 (some ⟨gB, 0, none⟩) [prio] by rw [hv, hg]; exact Rd.of_own (own_lit1I u1 prio (Nat.le_refl _)))
            rw [← hv] at hb s2
            have ST2 := Lib.hid (ST1.out.below hb)
            have RA2 := Lib.hid (RdI.below RA1.out hb)
            rw [← hv, ← hg]
            clear hv hg hb s1
            refine wpAnyH_ready (rs := [8]) (by kernel_rfl) (by simp) ?_
            refine AllReadyH.cons rfl (fun K hK => ?_) AllReadyH.nil
            go_simp
            refine (numbers_any (some ⟨gA, 0, none⟩) 4 [1, al, grp, obj] u2 (HT.out.below ST2.out.bel) RA2.out (Nat.le_of_ble_eq_true rfl) HIN.out).mono ?_
            rintro e u3 ⟨nA, nc, rfl, oN, hb⟩
            rw [show iencs [1, al, grp, obj] = NB from HNB.out.symm] at oN ⊢
            refine hK.out _ _ (ST2.out.below hb).box (fun s3 => ?_)
            clear hK K
            have ON3 := Lib.hid (Own.base_leI oN ST2.out.bel.size)
            have ST3 := Lib.hid (ST2.out.below hb)
            have RA3 := Lib.hid (RdI.below RA2.out hb)
            have RB3 := Lib.hid (Rd.below RB2.out hb)
            clear oN hb s2
            refine wpAnyH_ready (rs := [12]) (by kernel_rfl) (by simp) ?_
            refine AllReadyH.cons rfl (fun K hK => ?_) AllReadyH.nil
            refine step_appI rfl (.tmp 34) (.tmp 37) rfl W.heap.size (l := NB) (news := [prio]) Y HY.out rfl rfl ON3.out RB3.out (by have := HNL.out; simp; omega) ST3.out.bel.size ?_
            intro pA pc u9 o9 b9
            have ST9 := Lib.hid (ST3.out.app b9)
            have O9 := Lib.hid o9
            refine hK.out _ _ ST9.out.box (fun s9 => ?_)
            clear hK K o9 b9
            simp only [List.getElem_toArray, List.getElem_cons_succ, List.getElem_cons_zero, Act.put, List.setIfInBounds_toArray, List.set_cons_succ, List.set_cons_zero]
            refine wpAnyH_take (i := 13) (oi := ⟨_, _, _, _, _, _⟩) (v := .slice pA Y.length pc) rfl (by kernel_rfl) (by kernel_rfl) (by kernel_rfl) (fun _ _ _ h => h) (Or.inl ⟨by rfl, fun w' hS => by go_simp⟩) s9 ?_
            simp only [Act.put, List.setIfInBounds_toArray, List.set_cons_zero, List.set_cons_succ]
            refine wpAnyH_done (by kernel_rfl) ?_ _
            have c4 := ST9.out.box.cell 4
            have zc := ST9.out.box.lt
            simp only [List.getElem?_toArray, List.getElem?_cons_zero, List.getElem?_cons_succ] at c4
            go_wp2_with (at_builtin
                         go_must (refine wpList_appI rfl (.tmp 39) (.tmp 41) rfl W.heap.size (l := Y) (news := data) X HX.out rfl rfl O9.out (Rd.below HD.out ST9.out.bel) (by have := HYL.out; omega) ST9.out.bel.size ?_)
                         intro A10 c10 w10 o10 g10 b10
                         have O10 := Lib.hid o10
                         have B10 := Lib.hid (ST9.out.bel.trans b10)
                         clear o10 g10 b10)
            show P9 _ _
            rw [HP.out]
            exact ⟨fun _ => ⟨A10, c10, by rw [← HXE.out]; rfl, by rw [← HXE.out]; exact Own.base_leI O10.out BW.out.size⟩, fun h => (by rw [HYES.out] at h; cases h), BW.out.trans (B10.out.mono BW.out.size)⟩
        · go_simp
          have hb : Below u0.heap.size u0 (u0.alloc (.cells #[.int .u8 prio] 5)) := (Below.refl _ _).alloc (Nat.le_refl _) _
          refine hK.out _ _ (ST0.out.below hb).box (fun s1 => ?_)
          clear hK K
          obtain ⟨u1, hv⟩ : ∃ v, v = u0.alloc (.cells #[.int .u8 prio] 5) := ⟨_, rfl⟩
          obtain ⟨gB, hg⟩ : ∃ g, g = u0.heap.size := ⟨_, rfl⟩
          have RB1 := Lib.hid (show Rd u1 (some ⟨gB, 0, none⟩) [prio] by rw [hv, hg]; exact Rd.of_own (own_lit1I u0 prio (Nat.le_refl _)))
          rw [← hv] at hb s1
          have ST1 := Lib.hid (ST0.out.below hb)
          rw [← hv, ← hg]
          clear hv hg hb s0
          refine wpAnyH_ready (rs := [7]) (by kernel_rfl) (by simp) ?_
          refine AllReadyH.cons rfl (fun K hK => ?_) AllReadyH.nil
          go_simp
          have hb : Below u1.heap.size u1 (u1.alloc (.cells #[.int .u64 1, .int .u64 al, .int .u64 grp, .int .u64 obj] 22)) := (Below.refl _ _).alloc (Nat.le_refl _) _
          refine hK.out _ _ (ST1.out.below hb).box (fun s2 => ?_)
          clear hK K
          obtain ⟨u2, hv⟩ : ∃ v, v = u1.alloc (.cells #[.int .u64 1, .int .u64 al, .int .u64 grp, .int .u64 obj] 22) := ⟨_, rfl⟩
          obtain ⟨gA, hg⟩ : ∃ g, g = u1.heap.size := ⟨_, rfl⟩
          have RA2 := Lib.hid (show RdI .u64 u2 (some ⟨gA, 0, none⟩) [1, al, grp, obj] by rw [hv, hg]; exact rdlitI u1 [1, al, grp, obj] (Nat.le_of_ble_eq_true rfl))
          rw [← hv] at hb s2
          have ST2 := Lib.hid (ST1.out.below hb)
          have RB2 := Lib.hid (Rd.below RB1.out hb)
          rw [← hv, ← hg]
          clear hv hg hb s1
          refine wpAnyH_ready (rs := [8]) (by kernel_rfl) (by simp) ?_
          refine AllReadyH.cons rfl (fun K hK => ?_) AllReadyH.nil
          go_simp
          refine (numbers_any (some ⟨gA, 0, none⟩) 4 [1, al, grp, obj] u2 (HT.out.below ST2.out.bel) RA2.out (Nat.le_of_ble_eq_true rfl) HIN.out).mono ?_
          rintro e u3 ⟨nA, nc, rfl, oN, hb⟩
          rw [show iencs [1, al, grp, obj] = NB from HNB.out.symm] at oN ⊢
          refine hK.out _ _ (ST2.out.below hb).box (fun s3 => ?_)
          clear hK K
          have ON3 := Lib.hid (Own.base_leI oN ST2.out.bel.size)
          have ST3 := Lib.hid (ST2.out.below hb)
          have RA3 := Lib.hid (RdI.below RA2.out hb)
          have RB3 := Lib.hid (Rd.below RB2.out hb)
          clear oN hb s2
          refine wpAnyH_ready (rs := [12]) (by kernel_rfl) (by simp) ?_
          refine AllReadyH.cons rfl (fun K hK => ?_) AllReadyH.nil
          refine step_appI rfl (.tmp 34) (.tmp 37) rfl W.heap.size (l := NB) (news := [prio]) Y HY.out rfl rfl ON3.out RB3.out (by have := HNL.out; simp; omega) ST3.out.bel.size ?_
          intro pA pc u9 o9 b9
          have ST9 := Lib.hid (ST3.out.app b9)
          have O9 := Lib.hid o9
          refine hK.out _ _ ST9.out.box (fun s9 => ?_)
          clear hK K o9 b9
          simp only [List.getElem_toArray, List.getElem_cons_succ, List.getElem_cons_zero, Act.put, List.setIfInBounds_toArray, List.set_cons_succ, List.set_cons_zero]
          refine wpAnyH_take (i := 13) (oi := ⟨_, _, _, _, _, _⟩) (v := .slice pA Y.length pc) rfl (by kernel_rfl) (by kernel_rfl) (by kernel_rfl) (fun _ _ _ h => h) (Or.inl ⟨by rfl, fun w' hS => by go_simp⟩) s9 ?_
          simp only [Act.put, List.setIfInBounds_toArray, List.set_cons_zero, List.set_cons_succ]
          refine wpAnyH_done (by kernel_rfl) ?_ _
          have c4 := ST9.out.box.cell 4
          have zc := ST9.out.box.lt
          simp only [List.getElem?_toArray, List.getElem?_cons_zero, List.getElem?_cons_succ] at c4
          go_wp2_with (at_builtin
                       go_must (refine wpList_appI rfl (.tmp 39) (.tmp 41) rfl W.heap.size (l := Y) (news := data) X HX.out rfl rfl O9.out (Rd.below HD.out ST9.out.bel) (by have := HYL.out; omega) ST9.out.bel.size ?_)
                       intro A10 c10 w10 o10 g10 b10
                       have O10 := Lib.hid o10
                       have B10 := Lib.hid (ST9.out.bel.trans b10)
                       clear o10 g10 b10)
          show P9 _ _
          rw [HP.out]
          exact ⟨fun _ => ⟨A10, c10, by rw [← HXE.out]; rfl, by rw [← HXE.out]; exact Own.base_leI O10.out BW.out.size⟩, fun h => (by rw [HYES.out] at h; cases h), BW.out.trans (B10.out.mono BW.out.size)⟩
end Go.Proofs.YtpaglcojbcndoaaDoor
