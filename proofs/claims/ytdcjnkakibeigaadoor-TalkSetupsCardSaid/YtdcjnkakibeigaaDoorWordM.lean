/-
  word.Bytes: bit, list.
-/
import Derived.Test.YtdcjnkakibeigaaDoorWordL
namespace Go.Proofs.YtdcjnkakibeigaaDoor
open Go.RowKit
set_option linter.unusedVariables false
set_option linter.unusedSimpArgs false
def bitI (b : Bool) : Int := if b then 1 else 0
theorem bitW_any (b : Bool) (w : World) : Calls Tryd.prog 81 #[.bool b] w fun r w' => r = .returned (.int .u8 (bitI b)) ∧ w = w' := by
  cases b
  · go_enter Tryd.func81, Tryd.ntmps81
    go_wp2_with fail
    go_ret
    exact ⟨rfl, rfl⟩
  · go_enter Tryd.func81, Tryd.ntmps81
    go_wp2_with fail
    go_ret
    exact ⟨rfl, rfl⟩
/-- A list of numbers in blocks below base. -/
def RdU (w : World) (base : Nat) (A : Option Addr) (l : List Int) : Prop := Reads w base 1 A l.length (IV .u64 l)
theorem RdU.at_ {w : World} {base : Nat} {A : Option Addr} {l : List Int} (h : RdU w base A l) (hle : base ≤ w.heap.size) {j : Nat} (hj : j < l.length) : ∃ b off x, A = some ⟨b, off, none⟩ ∧ b < base ∧ l[j]? = some x ∧ w.cell? ⟨b, off + j, none⟩ = some (.int .u64 x) := by
  obtain ⟨ad, u, hA, hb, hu, hc⟩ := Reads.at_ h hj
  obtain ⟨b, off, x, e, _, hx, hcx⟩ := RdI.at_ (k := .u64) (w := w) (A := A) (l := l) (Reads.more h hle) hj
  exact ⟨b, off, x, e, by rw [hA] at e; injection e with e; rw [e] at hb; exact hb, hx, hcx⟩
def vencs (l : List Int) : List Int := l.flatMap venc
theorem vencs_take {l : List Int} {k : Nat} {x : Int} (hx : l[k]? = some x) : vencs (l.take (k + 1)) = vencs (l.take k) ++ venc x := by
  unfold vencs
  rw [List.take_add_one, hx, List.flatMap_append]
  simp
theorem vencs_len {l : List Int} (h : ∀ x ∈ l, 0 ≤ x ∧ x < 4611686018427387904) : (vencs l).length ≤ 8 * l.length := by
  induction l with
  | nil => simp [vencs]
  | cons a l ih =>
    have h1 := (venc_le a (h a (.head _)).1 (h a (.head _)).2).2.1
    have h2 := ih fun x hx => h x (.tail _ hx)
    unfold vencs at h2 ⊢
    rw [List.flatMap_cons, List.length_append, List.length_cons]
    omega
set_option maxHeartbeats 800000 in
theorem listW_any (A : Option Addr) (c : Nat) (P : List Int) (B : Option Addr) (lc : Nat) (l : List Int) (X : List Int) (base : Nat) (w : World) (ht : EW base w) (hown : Own w base A c P) (hP : P.length ≤ 90000) (hr : RdU w base B l) (hl : l.length ≤ 8)
    (hw : ∀ x ∈ l, 0 ≤ x ∧ x < 4611686018427387904) (hX : X = P ++ (venc l.length ++ vencs l)) :
    Calls Tryd.prog 83 #[.slice A P.length c, .slice B l.length lc] w fun r w' => ∃ A' c', r = .returned (.slice A' X.length c') ∧ Grew base w w' A' c' X := by
  obtain ⟨Y, hY⟩ : ∃ Y, Y = P ++ venc (l.length : Int) := ⟨_, rfl⟩
  have hYl : Y.length ≤ 90008 := by rw [hY, List.length_append]; have := (venc_le (l.length : Int) (by omega) (by omega)).2.1; omega
  have N1 := Lib.hid (numberW_any A c P (l.length : Int) Y base w ht hown (by omega) (by omega) (by omega) hY)
  have HR := Lib.hid hr
  have HE := Lib.hid ht
  obtain ⟨F, hF⟩ : ∃ F : Nat → List Int, F = fun k => Y ++ vencs (l.take k) := ⟨_, rfl⟩
  have HN := Lib.hid (fun (k : Nat) (x : Int) (hx : l[k]? = some x) w1 A1 c1 (g : Grew base w w1 A1 c1 (F k)) =>
    numberW_any A1 c1 (F k) x (F (k + 1)) base w1 (ht.below g.bel) g.own
      (by rw [hF]; simp only [List.length_append]; have := vencs_len (l := l.take k) (fun x h => hw x (List.mem_of_mem_take h)); rw [List.length_take] at this; omega)
      (hw x (List.mem_of_getElem? hx)).1 (hw x (List.mem_of_getElem? hx)).2 (by rw [hF]; simp only; rw [vencs_take hx, List.append_assoc]))
  have F0 := Lib.hid (show Y = F 0 by rw [hF]; simp [vencs])
  have FL := Lib.hid (show F l.length = X by rw [hF]; simp only [List.take_length]; rw [hX, hY, List.append_assoc])
  have hl8 : (l.length : Int) ≤ 8 := by omega
  clear hY hX hr ht hown hw hF
  go_enter Tryd.func83, Tryd.ntmps83
  go_wp2_with fail
  refine N1.out.mono ?_
  rintro e w1 ⟨A1, c1, rfl, g1⟩
  have G1 := Lib.hid g1
  clear g1 N1
  go_wp2_with fail
  go_loopw [0, 14] (fun pv iv wr => ∃ (k : Nat) (A' : Option Addr) (c' : Nat), pv = .slice A' (F k).length c' ∧ iv = .int .i64 k ∧ k ≤ l.length ∧ Hid (Grew base w wr A' c' (F k))) (fun _ iv _ => l.length - (intOf iv).toNat)
  case atStart => exact ⟨0, A1, c1, by rw [← F0.out], rfl, by omega, Lib.hid (by rw [← F0.out]; exact G1.out)⟩
  case round =>
    obtain ⟨k, A2, c2, rfl, rfl, hk, HI⟩ := hrel
    rename World => wr
    by_cases hlt : k < l.length
    · obtain ⟨bk, off, y, rfl, hb, hy, hc⟩ := RdU.at_ (Reads.below HR.out HI.out.bel) (Nat.le_trans HE.out.le HI.out.bel.size) hlt
      have N2 := Lib.hid (HN.out k y hy wr A2 c2 HI.out)
      obtain ⟨L2, hL2⟩ : ∃ L2, L2 = (F k).length := ⟨_, rfl⟩
      rw [← hL2] at N2 ⊢
      clear hy hL2
      go_wp2_with fail
      refine N2.out.mono ?_
      rintro e w2 ⟨A3, c3, rfl, g3⟩
      have G3 := Lib.hid (show Grew base w w2 A3 c3 _ from ⟨g3.own, HI.out.bel.trans g3.bel, HI.out.kp.trans g3.kp⟩)
      clear g3
      go_wp2_with fail
      go_roundw
      case rel => exact ⟨k + 1, A3, c3, rfl, by go_num, by omega, G3⟩
      case measure => simp [intOf]; omega
    · have hd : decide (k < l.length) = false := by simpa using hlt
      have hkl : k = l.length := by omega
      subst hkl
      have hi := HI.out
      rw [FL.out] at hi ⊢
      have HB := Lib.hid hi
      clear hi HI
      go_wp2_with fail
      go_ret
      exact ⟨A2, c2, rfl, HB.out⟩
end Go.Proofs.YtdcjnkakibeigaaDoor
