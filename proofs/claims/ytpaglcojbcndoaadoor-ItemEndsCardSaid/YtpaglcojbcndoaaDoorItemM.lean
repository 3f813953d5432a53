/-
  The reference's nums and Text (of layer 1).
-/
import Derived.Test.YtpaglcojbcndoaaDoorItemL
import Derived.Test.YtpaglcojbcndoaaDoorVintG
namespace Go.Proofs.YtpaglcojbcndoaaDoor
open Go.RowKit
set_option linter.unusedVariables false
set_option linter.unusedSimpArgs false
theorem refTextI (A : Option Addr) (c : Nat) (l : List Int) (w : World) (hr : Rd w A l) (hl : l.length ≤ 1000000) :
    Calls Tryd.prog 45 #[.slice A l.length c] w fun r w' => ∃ A' c', r = .returned (.slice A' (vtext l).length c') ∧ Own w' w.heap.size A' c' (vtext l) ∧ Below w.heap.size w w' := by
  have HN := Lib.hid (refNum_ok (l.length : Int) w (by omega) (by omega))
  have hv8 : (venc (l.length : Int)).length ≤ 8 := (venc_le _ (by omega) (by omega)).2.1
  obtain ⟨X, hX⟩ : ∃ X, X = vtext l := ⟨_, rfl⟩
  rw [← hX]
  unfold vtext at hX
  obtain ⟨v, hv⟩ : ∃ v, v = venc (l.length : Int) := ⟨_, rfl⟩
  rw [← hv] at HN hX hv8
  have HX := Lib.hid hX
  have HR := Lib.hid hr
  have hw64 : IntKind.u64.wrap (l.length : Int) = (l.length : Int) := by rw [IntKind.wrap_u64]; omega
  clear hX hv hr
  go_enter Tryd.func45, Tryd.ntmps45
  go_wp2_with fail
  refine HN.out.mono ?_
  rintro e w1 ⟨A1, c1, rfl, o1, b1⟩
  have O1 := Lib.hid o1
  have B1 := Lib.hid b1
  have R1 := Lib.hid (Rd.below HR.out b1)
  clear o1 b1 HN
  go_wp2_with (at_builtin
               go_must (refine wpList_appI rfl (.tmp 12) (.tmp 13) rfl w.heap.size (l := v) (news := l) X HX.out rfl rfl O1.out R1.out (by omega) B1.out.size ?_)
               intro A3 c3 w3 o3 g3 b3
               have O3 := Lib.hid o3
               have B3 := Lib.hid (B1.out.trans b3)
               clear o3 g3 b3)
  go_ret
  exact ⟨A3, c3, rfl, O3.out, B3.out⟩
/-- What nums answers. -/
structure NumsTo (w w' : World) (l : List Int) (r : Ending) : Prop where
  ok : encI l = true → ∃ A' c', r = .returned (.tuple #[.slice A' (iencs l).length c', .bool true]) ∧ Own w' w.heap.size A' c' (iencs l)
  no : encI l = false → r = .returned (.tuple #[.slice none 0 0, .bool false])
  bel : Below w.heap.size w w'
set_option maxHeartbeats 1600000 in
theorem refNumsI (A : Option Addr) (c : Nat) (l : List Int) (w : World) (hr : RdI .u64 w A l) (hl : l.length ≤ 1000) (hw : ∀ x ∈ l, 0 ≤ x) :
    Calls Tryd.prog 44 #[.slice A l.length c] w fun r w' => NumsTo w w' l r := by
  have HR := Lib.hid hr
  obtain ⟨P9, hP9⟩ : ∃ P9 : World → Ending → Prop, P9 = fun w' r => NumsTo w w' l r := ⟨_, rfl⟩
  have HP := Lib.hid hP9
  rw [show (fun r w' => NumsTo w w' l r) = fun r w' => P9 w' r by rw [hP9]]
  obtain ⟨F, hF⟩ : ∃ F : Nat → List Int, F = fun k => iencs (l.take k) := ⟨_, rfl⟩
  have HN := Lib.hid (fun (x : Int) (hx : InI x) w1 => refNum_ok x w1 hx.1 hx.2)
  have HNL := Lib.hid (fun (x : Int) (hx : 4611686018427387904 ≤ x) w1 => refNum_long x w1 hx)
  have HW := Lib.hid (fun (k : Nat) (x : Int) (hx : l[k]? = some x) => hw x (List.mem_of_getElem? hx))
  have HFS := Lib.hid (fun (k : Nat) (x : Int) (hx : l[k]? = some x) => show F (k + 1) = F k ++ venc x by rw [hF]; exact iencs_take hx)
  have HFL := Lib.hid (show ∀ k, (∀ (j : Nat) (y : Int), j < k → l[j]? = some y → InI y) → (F k).length ≤ 8000 by
    intro k h
    rw [hF]
    have := iencs_len (l := l.take k) (fun x hx => by
      obtain ⟨j, hj⟩ := List.getElem?_of_mem hx
      rw [List.getElem?_take] at hj
      split at hj
      · exact h j x (by assumption) hj
      · cases hj)
    rw [List.length_take] at this
    simp only
    omega)
  have F0 := Lib.hid (show F 0 = [] by rw [hF]; rfl)
  have FL := Lib.hid (show F l.length = iencs l by rw [hF]; simp)
  have HNO := Lib.hid (show ∀ (j : Nat) (y : Int), l[j]? = some y → 4611686018427387904 ≤ y → encI l = false from fun j y hj hy => by
    rw [Bool.eq_false_iff]
    intro e
    have := List.all_eq_true.1 e y (List.mem_of_getElem? hj)
    simp at this
    omega)
  clear hr hw hF hP9
  go_enter Tryd.func44, Tryd.ntmps44
  go_wp2_with fail
  go_loopw [4, 11] (fun pv iv wr => ∃ (k : Nat) (A' : Option Addr) (c' : Nat), pv = .slice A' (F k).length c' ∧ iv = .int .i64 k ∧ k ≤ l.length ∧ Hid (Own wr w.heap.size A' c' (F k) ∧ Below w.heap.size w wr ∧ ∀ (j : Nat) (y : Int), j < k → l[j]? = some y → InI y)) (fun _ iv _ => l.length - (intOf iv).toNat)
  case atStart => exact ⟨0, none, 0, by rw [F0.out]; rfl, rfl, by omega, Lib.hid ⟨by rw [F0.out]; exact Own.nil _ _, Below.refl _ _, fun j y h => by omega⟩⟩
  case round =>
    obtain ⟨k, A2, c2, rfl, rfl, hk, HI⟩ := hrel
    rename World => wr
    by_cases hlt : k < l.length
    · obtain ⟨bk, off, y, rfl, hb, hy, hc⟩ := (RdI.below HR.out HI.out.2.1).at_ hlt
      by_cases hm : 4611686018427387904 ≤ y
      · have N2 := Lib.hid (HNL.out y hm wr)
        have HNO2 := Lib.hid (HNO.out k y hy hm)
        clear hy HNO HFS HFL
        go_wp2_with fail
        refine N2.out.mono ?_
        rintro e w2 ⟨rfl, rfl⟩
        go_wp2_with fail
        show P9 _ _
        rw [HP.out]
        exact ⟨fun h => (by rw [HNO2.out] at h; cases h), fun _ => rfl, HI.out.2.1⟩
      · have hin : InI y := ⟨HW.out k y hy, by omega⟩
        have N2 := Lib.hid (HN.out y hin wr)
        have hv8 : (venc y).length ≤ 8 := venc8I hin
        obtain ⟨v, hv⟩ : ∃ v, v = venc y := ⟨_, rfl⟩
        obtain ⟨P, hP⟩ : ∃ P, P = F k := ⟨_, rfl⟩
        obtain ⟨X, hX⟩ : ∃ X, X = F (k + 1) := ⟨_, rfl⟩
        have HX := Lib.hid (show X = P ++ v by rw [hX, HFS.out k y hy, hP, hv])
        have HXE := Lib.hid hX
        have hPl : P.length ≤ 8000 := by rw [hP]; exact HFL.out k HI.out.2.2
        have HIN := Lib.hid (show ∀ (j : Nat) (z : Int), j < k + 1 → l[j]? = some z → InI z from fun j z hj hz => by
          rcases Nat.lt_or_ge j k with h | h
          · exact HI.out.2.2 j z h hz
          · have : j = k := by omega
            subst this
            rw [hy] at hz
            injection hz with hz
            subst hz
            exact hin)
        rw [← hv] at N2 hv8
        rw [← hP] at HI ⊢
        clear hy hv hP hX hin hm HNL HNO
        go_wp2_with fail
        refine N2.out.mono ?_
        rintro e w2 ⟨A3, c3, rfl, o3, b3⟩
        have O3 := Lib.hid o3
        have P3 := Lib.hid (Own.below HI.out.1 b3)
        have B3 := Lib.hid (HI.out.2.1.trans (b3.mono HI.out.2.1.size))
        clear o3 b3 N2 HI
        go_wp2_with (at_builtin
                     go_must (refine wpList_appI rfl (.tmp 22) (.tmp 23) rfl w.heap.size (l := P) (news := v) X HX.out rfl rfl P3.out (Rd.of_own O3.out) (by omega) B3.out.size ?_)
                     intro A4 c4 w4 o4 g4 b4
                     have O4 := Lib.hid o4
                     have B4 := Lib.hid (B3.out.trans b4)
                     clear o4 g4 b4)
        go_roundw
        case rel => exact ⟨k + 1, A4, c4, by rw [← HXE.out], by go_num, by omega, Lib.hid (by rw [← HXE.out]; exact ⟨O4.out, B4.out, HIN.out⟩)⟩
        case measure => simp [intOf]; omega
    · have hd : decide (k < l.length) = false := by simpa using hlt
      have hkl : k = l.length := by omega
      subst hkl
      have hi := HI.out
      rw [FL.out] at hi ⊢
      have HB := Lib.hid hi
      have HE := Lib.hid (show encI l = true from encI_of fun x hx => by
        obtain ⟨j, hj⟩ := List.getElem?_of_mem hx
        exact HI.out.2.2 j x (by
          rcases Nat.lt_or_ge j l.length with h | h
          · exact h
          · rw [List.getElem?_eq_none h] at hj; cases hj) hj)
      clear hi HI HNL HNO HFS HFL
      go_wp2_with fail
      show P9 _ _
      rw [HP.out]
      exact ⟨fun _ => ⟨A2, c2, rfl, HB.out.1⟩, fun h => (by rw [HE.out] at h; cases h), HB.out.2.1⟩
end Go.Proofs.YtpaglcojbcndoaaDoor
