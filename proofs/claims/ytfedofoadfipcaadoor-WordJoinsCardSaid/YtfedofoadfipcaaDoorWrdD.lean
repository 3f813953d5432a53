/-
  The reference's Text and num.
-/
import Derived.Test.YtfedofoadfipcaaDoorWrdC
import Derived.Test.YtfedofoadfipcaaDoorWordO
import Derived.Test.YtfedofoadfipcaaDoorVintG
namespace Go.Proofs.YtfedofoadfipcaaDoor
open Go.RowKit
set_option linter.unusedVariables false
set_option linter.unusedSimpArgs false
theorem refTextW (A : Option Addr) (c : Nat) (l : List Int) (w : World) (hr : Rd w A l) (hl : l.length ≤ 1000000) :
    Calls Tryd.prog 30 #[.slice A l.length c] w fun r w' => ∃ A' c', r = .returned (.slice A' (vtext l).length c') ∧ Own w' w.heap.size A' c' (vtext l) ∧ Below w.heap.size w w' := by
  have HN := Lib.hid (refNum_ok (l.length : Int) w (by omega) (by omega))
  have hv8 : (venc (l.length : Int)).length ≤ 8 := (venc_le _ (by omega) (by omega)).2.1
  obtain ⟨X, hX⟩ : ∃ X, X = vtext l := ⟨_, rfl⟩
  rw [← hX]
  unfold vtext at hX
  obtain ⟨v, hv⟩ : ∃ v, v = venc (l.length : Int) := ⟨_, rfl⟩
  rw [← hv] at HN hX hv8
  have HX := Lib.hid hX
  have HR := Lib.hid hr
  have hw64 : IntKind.u64.wrap (l.length : Int) = (l.length : Int) := by rw [IntKind.wrap_u64]; omega
  clear hX hv hr
  go_enter Tryd.func30, Tryd.ntmps30
  go_wp2_with fail
  refine HN.out.mono ?_
  rintro e w1 ⟨A1, c1, rfl, o1, b1⟩
  have O1 := Lib.hid o1
  have B1 := Lib.hid b1
  have R1 := Lib.hid (Rd.below HR.out b1)
  clear o1 b1 HN
  go_wp2_with (at_builtin
               go_must (refine wpList_appW rfl (.tmp 12) (.tmp 13) rfl w.heap.size (l := v) (news := l) X HX.out rfl rfl O1.out R1.out (by omega) B1.out.size ?_)
               intro A3 c3 w3 o3 g3 b3
               have O3 := Lib.hid o3
               have B3 := Lib.hid (B1.out.trans b3)
               clear o3 g3 b3)
  go_ret
  exact ⟨A3, c3, rfl, O3.out, B3.out⟩
theorem refNums_any (A : Option Addr) (c : Nat) (l : List Int) (w : World) (hr : RdI .u64 w A l) (hl : l.length ≤ 1000) (hw : ∀ x ∈ l, InR x) :
    Calls Tryd.prog 29 #[.slice A l.length c] w fun r w' => ∃ A' c', r = .returned (.slice A' (vencs l).length c') ∧ Own w' w.heap.size A' c' (vencs l) ∧ Below w.heap.size w w' := by
  have HR := Lib.hid hr
  obtain ⟨F, hF⟩ : ∃ F : Nat → List Int, F = fun k => vencs (l.take k) := ⟨_, rfl⟩
  have HN := Lib.hid (fun (x : Int) (hx : InR x) w1 => refNum_ok x w1 hx.1 hx.2)
  have HW := Lib.hid (fun (k : Nat) (x : Int) (hx : l[k]? = some x) => hw x (List.mem_of_getElem? hx))
  have HFS := Lib.hid (fun (k : Nat) (x : Int) (hx : l[k]? = some x) => show F (k + 1) = F k ++ venc x by rw [hF]; exact vencs_take hx)
  have HFL := Lib.hid (show ∀ k, (F k).length ≤ 8000 by
    intro k
    rw [hF]
    have := vencs_len (l := l.take k) (fun x h => hw x (List.mem_of_mem_take h))
    rw [List.length_take] at this
    simp only
    omega)
  have F0 := Lib.hid (show F 0 = [] by rw [hF]; rfl)
  have FL := Lib.hid (show F l.length = vencs l by rw [hF]; simp)
  clear hr hw hF
  go_enter Tryd.func29, Tryd.ntmps29
  go_wp2_with fail
  go_loopw [3, 10] (fun pv iv wr => ∃ (k : Nat) (A' : Option Addr) (c' : Nat), pv = .slice A' (F k).length c' ∧ iv = .int .i64 k ∧ k ≤ l.length ∧ Hid (Own wr w.heap.size A' c' (F k) ∧ Below w.heap.size w wr)) (fun _ iv _ => l.length - (intOf iv).toNat)
  case atStart => exact ⟨0, none, 0, by rw [F0.out]; rfl, rfl, by omega, Lib.hid ⟨by rw [F0.out]; exact Own.nil _ _, Below.refl _ _⟩⟩
  case round =>
    obtain ⟨k, A2, c2, rfl, rfl, hk, HI⟩ := hrel
    rename World => wr
    by_cases hlt : k < l.length
    · obtain ⟨bk, off, y, rfl, hb, hy, hc⟩ := (RdI.below HR.out HI.out.2).at_ hlt
      have N2 := Lib.hid (HN.out y (HW.out k y hy) wr)
      have hv8 : (venc y).length ≤ 8 := venc8 (HW.out k y hy)
      obtain ⟨v, hv⟩ : ∃ v, v = venc y := ⟨_, rfl⟩
      obtain ⟨P, hP⟩ : ∃ P, P = F k := ⟨_, rfl⟩
      obtain ⟨X, hX⟩ : ∃ X, X = F (k + 1) := ⟨_, rfl⟩
      have HX := Lib.hid (show X = P ++ v by rw [hX, HFS.out k y hy, hP, hv])
      have HXE := Lib.hid hX
      have hPl : P.length ≤ 8000 := by rw [hP]; exact HFL.out k
      rw [← hv] at N2 hv8
      rw [← hP] at HI ⊢
      clear hy hv hP hX
      go_wp2_with fail
      refine N2.out.mono ?_
      rintro e w2 ⟨A3, c3, rfl, o3, b3⟩
      have O3 := Lib.hid o3
      have P3 := Lib.hid (Own.below HI.out.1 b3)
      have B3 := Lib.hid (HI.out.2.trans (b3.mono HI.out.2.size))
      clear o3 b3 N2 HI
      go_wp2_with (at_builtin
                   go_must (refine wpList_appW rfl (.tmp 19) (.tmp 20) rfl w.heap.size (l := P) (news := v) X HX.out rfl rfl P3.out (Rd.of_own O3.out) (by omega) B3.out.size ?_)
                   intro A4 c4 w4 o4 g4 b4
                   have O4 := Lib.hid o4
                   have B4 := Lib.hid (B3.out.trans b4)
                   clear o4 g4 b4)
      go_roundw
      case rel => exact ⟨k + 1, A4, c4, by rw [← HXE.out], by go_num, by omega, Lib.hid (by rw [← HXE.out]; exact ⟨O4.out, B4.out⟩)⟩
      case measure => simp [intOf]; omega
    · have hd : decide (k < l.length) = false := by simpa using hlt
      have hkl : k = l.length := by omega
      subst hkl
      have hi := HI.out
      rw [FL.out] at hi ⊢
      have HB := Lib.hid hi
      clear hi HI
      go_wp2_with fail
      go_ret
      exact ⟨A2, c2, rfl, HB.out⟩
end Go.Proofs.YtfedofoadfipcaaDoor
