/-
  The reference's Begin, for every head.
-/
import Derived.Test.YtpaglcojbcndoaaDoorItemM
namespace Go.Proofs.YtpaglcojbcndoaaDoor
open Go.RowKit
set_option linter.unusedVariables false
set_option linter.unusedSimpArgs false
def beginOk (h : IH) : Bool := if h.fe then encI [5, h.id] && (decide (h.gr = 0) && decide (h.pr = 0)) else encI [16, h.id, h.gr]
def beginB (h : IH) : List Int := if h.fe then iencs [5, h.id] else iencs [16, h.id, h.gr] ++ [h.pr]
/-- What Begin answers. -/
structure BegTo (w w' : World) (h : IH) (r : Ending) : Prop where
  ok : beginOk h = true → ∃ A' c', r = .returned (.tuple #[.slice A' (beginB h).length c', .int .i64 0]) ∧ Own w' w.heap.size A' c' (beginB h)
  no : beginOk h = false → r = .returned (.tuple #[.slice none 0 0, .int .i64 4])
  bel : Below w.heap.size w w'
set_option maxHeartbeats 1600000 in
theorem refBegin_any (h : IH) (w : World) (h0 : 0 ≤ h.id ∧ 0 ≤ h.gr) :
    Calls Tryd.prog 24 #[.agg (ihC h)] w fun r w' => BegTo w w' h r := by
  obtain ⟨P9, hP9⟩ : ∃ P9 : World → Ending → Prop, P9 = fun w' r => BegTo w w' h r := ⟨_, rfl⟩
  have HP := Lib.hid hP9
  rw [show (fun r w' => BegTo w w' h r) = fun r w' => P9 w' r by rw [hP9]]
  obtain ⟨OK, hOK⟩ : ∃ b, b = beginOk h := ⟨_, rfl⟩
  obtain ⟨YB, hYB⟩ : ∃ b, b = beginB h := ⟨_, rfl⟩
  have HOK := Lib.hid hOK
  have HYB := Lib.hid hYB
  obtain ⟨fe, id, gr, pr⟩ := h
  simp only at h0
  unfold beginOk at hOK
  unfold beginB at hYB
  unfold ihC
  simp only at hOK hYB ⊢
  obtain ⟨W, hW⟩ : ∃ W, W = w.alloc (.cells #[.bool fe, .int .u64 id, .int .u64 gr, .int .u8 pr] 50) := ⟨_, rfl⟩
  have bw : Below w.heap.size w W := by rw [hW]; exact (Below.refl _ _).alloc (Nat.le_refl _) _
  have kw : Blk W w.heap.size 50 #[.bool fe, .int .u64 id, .int .u64 gr, .int .u8 pr] := by rw [hW]; exact Blk.new _ _ _
  obtain ⟨gm, hgm⟩ : ∃ g, g = w.heap.size := ⟨_, rfl⟩
  have BW := Lib.hid bw
  have HW := Lib.hid hW
  have HG := Lib.hid hgm
  rw [← hgm] at kw
  have KW := Lib.hid kw
  have k0 := kw.cell 0
  have k1 := kw.cell 1
  have k2 := kw.cell 2
  have zk := kw.lt
  simp only [List.getElem?_toArray, List.getElem?_cons_zero, List.getElem?_cons_succ] at k0 k1 k2
  have NIL : ∀ wx (hb : Below w.heap.size w wx), OK = false → BegTo w wx ⟨fe, id, gr, pr⟩ (.returned (.tuple #[.slice none 0 0, .int .i64 4])) := fun wx hb hn =>
    ⟨fun h => (by rw [← HOK.out, hn] at h; cases h), fun _ => rfl, hb⟩
  have YES : ∀ wx (hb : Below w.heap.size w wx) A' c' (o : Own wx w.heap.size A' c' YB), OK = true → BegTo w wx ⟨fe, id, gr, pr⟩ (.returned (.tuple #[.slice A' YB.length c', .int .i64 0])) := fun wx hb A' c' o hn =>
    ⟨fun h => ⟨A', c', by rw [← HYB.out], by rw [← HYB.out]; exact o⟩, fun h => (by rw [← HOK.out, hn] at h; cases h), hb⟩
  have HNIL := Lib.hid NIL
  have HYES := Lib.hid YES
  clear bw hW kw hgm hP9 NIL YES
  cases fe with
  | true =>
    obtain ⟨W2, hW2⟩ : ∃ W2, W2 = W.alloc (.cells #[.int .u64 5, .int .u64 id] 22) := ⟨_, rfl⟩
    have b2 : Below W.heap.size W W2 := by rw [hW2]; exact (Below.refl _ _).alloc (Nat.le_refl _) _
    have CN := Lib.hid (refNumsI (some ⟨W.heap.size, 0, none⟩) 2 [5, id] W2 (by rw [hW2]; exact rdlitI W [5, id] (Nat.le_of_ble_eq_true rfl)) (Nat.le_of_ble_eq_true rfl) (by intro x hx; simp at hx; omega))
    have K2 := KW.out.below b2 KW.out.lt
    have B2 := Lib.hid (BW.out.trans (b2.mono BW.out.size))
    have KW2 := Lib.hid K2
    have HW2 := Lib.hid hW2
    simp only [if_true] at hOK hYB
    obtain ⟨EN, hEN⟩ : ∃ b, b = encI [5, id] := ⟨_, rfl⟩
    rw [← hEN] at hOK
    have HEN := Lib.hid hEN
    have HOK2 := Lib.hid hOK
    have HYB2 := Lib.hid hYB
    clear b2 K2 hW2 hEN hOK hYB
    go_enter Tryd.func24, Tryd.ntmps24
    go_upto_region 1 with (fail)
    rw [← HW.out, ← HG.out]
    go_wp2_with fail
    rw [← HW2.out]
    refine CN.out.mono ?_
    rintro e w3 hn
    have K3 := KW2.out.below hn.bel KW2.out.lt
    have B3 := Lib.hid (B2.out.trans (hn.bel.mono B2.out.size))
    clear k0 k1 k2 zk
    have k2 := K3.cell 2
    have k3 := K3.cell 3
    have zk := K3.lt
    simp only [List.getElem?_toArray, List.getElem?_cons_zero, List.getElem?_cons_succ] at k2 k3
    have SZ2 := Lib.hid B2.out.size
    cases EN with
    | false =>
      obtain rfl := hn.no HEN.out.symm
      have HO := Lib.hid (show OK = false by rw [HOK2.out]; rfl)
      clear K3 hn CN
      go_wp2_with fail
      show P9 _ _
      rw [HP.out]
      exact HNIL.out _ B3.out HO.out
    | true =>
      obtain ⟨A1, c1, rfl, o1⟩ := hn.ok HEN.out.symm
      have O1 := Lib.hid o1
      by_cases hg : gr = 0
      · by_cases hp : pr = 0
        · subst hg hp
          have HO := Lib.hid (show OK = true by rw [HOK2.out]; rfl)
          have HYE := Lib.hid (show Own w3 w.heap.size A1 c1 YB by rw [HYB2.out]; exact Own.base_leI O1.out B2.out.size)
          have HYX := Lib.hid (show (iencs [5, id]).length = YB.length by rw [HYB2.out])
          obtain ⟨nn, hnn⟩ : ∃ nn, nn = (iencs [5, id]).length := ⟨_, rfl⟩
          rw [← hnn] at HYX ⊢
          clear K3 hn CN o1 hnn
          go_wp2_with fail
          show P9 _ _
          rw [HP.out]
          have := HYES.out _ B3.out _ _ HYE.out HO.out
          rw [← HYX.out] at this
          exact this
        · subst hg
          have HO := Lib.hid (show OK = false by rw [HOK2.out]; simp [hp])
          have hz : (pr != 0) = true := by simpa using hp
          clear K3 hn CN o1
          go_wp2_with fail
          show P9 _ _
          rw [HP.out]
          exact HNIL.out _ B3.out HO.out
      · have HO := Lib.hid (show OK = false by rw [HOK2.out]; simp [hg])
        have hz : (gr != 0) = true := by simpa using hg
        clear K3 hn CN o1
        go_wp2_with fail
        show P9 _ _
        rw [HP.out]
        exact HNIL.out _ B3.out HO.out
  | false =>
    obtain ⟨W2, hW2⟩ : ∃ W2, W2 = W.alloc (.cells #[.int .u64 16, .int .u64 id, .int .u64 gr] 22) := ⟨_, rfl⟩
    have b2 : Below W.heap.size W W2 := by rw [hW2]; exact (Below.refl _ _).alloc (Nat.le_refl _) _
    have CN := Lib.hid (refNumsI (some ⟨W.heap.size, 0, none⟩) 3 [16, id, gr] W2 (by rw [hW2]; exact rdlitI W [16, id, gr] (Nat.le_of_ble_eq_true rfl)) (Nat.le_of_ble_eq_true rfl) (by intro x hx; simp at hx; omega))
    have K2 := KW.out.below b2 KW.out.lt
    have B2 := Lib.hid (BW.out.trans (b2.mono BW.out.size))
    have KW2 := Lib.hid K2
    have HW2 := Lib.hid hW2
    simp only [Bool.false_eq_true, if_false] at hOK hYB
    obtain ⟨EN, hEN⟩ : ∃ b, b = encI [16, id, gr] := ⟨_, rfl⟩
    rw [← hEN] at hOK
    have HEN := Lib.hid hEN
    have HNN := Lib.hid (show EN = true → (iencs [16, id, gr]).length ≤ 40 from fun e => by
      have := iencs_len (encI_all (l := [16, id, gr]) (by rw [← hEN]; exact e) (by intro x hx; simp at hx; omega))
      simp only [List.length_cons, List.length_nil] at this
      omega)
    have HOK2 := Lib.hid hOK
    have HYB2 := Lib.hid hYB
    clear b2 K2 hW2 hEN hOK hYB
    go_enter Tryd.func24, Tryd.ntmps24
    go_upto_region 1 with (fail)
    rw [← HW.out, ← HG.out]
    go_wp2_with fail
    rw [← HW2.out]
    refine CN.out.mono ?_
    rintro e w3 hn
    have K3 := KW2.out.below hn.bel KW2.out.lt
    have B3 := Lib.hid (B2.out.trans (hn.bel.mono B2.out.size))
    clear k0 k1 k2 zk
    have k3 := K3.cell 3
    have zk := K3.lt
    simp only [List.getElem?_toArray, List.getElem?_cons_zero, List.getElem?_cons_succ] at k3
    have SZ2 := Lib.hid B2.out.size
    cases EN with
    | false =>
      obtain rfl := hn.no HEN.out.symm
      have HO := Lib.hid HOK2.out
      clear K3 hn CN
      go_wp2_with fail
      show P9 _ _
      rw [HP.out]
      exact HNIL.out _ B3.out HO.out
    | true =>
      obtain ⟨A1, c1, rfl, o1⟩ := hn.ok HEN.out.symm
      obtain ⟨NB, hNB⟩ : ∃ NB, NB = iencs [16, id, gr] := ⟨_, rfl⟩
      rw [← hNB] at o1 HNN HYB2 ⊢
      have HNL := Lib.hid (HNN.out rfl)
      have ba := (Below.refl w3.heap.size w3).alloc (Nat.le_refl _) (.cells #[.int .u8 pr] 5)
      have O1 := Lib.hid (Own.below (Own.base_leI o1 B2.out.size) ba)
      have R1 := Lib.hid (Rd.of_own (own_lit1I w3 pr (Nat.le_refl _)))
      have BA := Lib.hid (B3.out.trans (ba.mono B3.out.size))
      clear K3 hn CN o1 ba hNB
      go_wp2_with (at_builtin
                   go_must (refine wpList_appI rfl (.tmp 41) (.tmp 44) rfl w.heap.size (l := NB) (news := [pr]) YB HYB2.out rfl rfl O1.out R1.out (by have := HNL.out; simp; omega) BA.out.size ?_)
                   intro A4 c4 w4 o4 g4 b4
                   have O4 := Lib.hid o4
                   have B4 := Lib.hid (BA.out.trans b4)
                   clear o4 g4 b4)
      show P9 _ _
      rw [HP.out]
      exact HYES.out _ B4.out _ _ O4.out HOK2.out
end Go.Proofs.YtpaglcojbcndoaaDoor
