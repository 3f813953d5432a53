/-
  turn: a row of places; two of them change; swapRange, rotate.
-/
import Derived.Test.YtchohcfcnghmlaaTurnF
namespace Go.Proofs.Ytchohcfcnghmlaa
open Go.RowKit
set_option linter.unusedVariables false
set_option linter.unusedSimpArgs false
def NV (D : List Nat) : List Value := D.map fun (x : Nat) => Value.int .i64 (x : Int)
def RowN (W : World) (B : Nat) (A : Option Addr) (c : Nat) (D : List Nat) : Prop := OwnV W B 3 1 A c D.length (NV D)
theorem RowN.below {W W' : World} {B c : Nat} {A : Option Addr} {D : List Nat} (h : RowN W B A c D) (hb : Below W.heap.size W W') : RowN W' B A c D := OwnV.below h hb
theorem RowN.drew {W : World} {B c : Nat} {A : Option Addr} {D : List Nat} (h : RowN W B A c D) (n : Nat) : RowN (W.drewN n) B A c D := OwnV.below h ⟨rfl, rfl, rfl, Nat.le_refl _, fun _ _ => rfl⟩
theorem RowN.at_ {W : World} {B c i : Nat} {A : Option Addr} {D : List Nat} (h : RowN W B A c D) (hi : i < D.length) :
    ∃ g x, A = some ⟨g, 0, none⟩ ∧ B ≤ g ∧ g < W.heap.size ∧ D[i]? = some x ∧ W.cell? ⟨g, i, none⟩ = some (.int .i64 (x : Int)) ∧ W.frozen? ⟨g, i, none⟩ = false ∧ ∀ y : Nat, RowN (W.setCell ⟨g, i, none⟩ (.int .i64 (y : Int))) B A c (D.set i y) := by
  obtain ⟨g, u, e, hg, hu, hc⟩ := OwnV.at_ h hi
  subst e
  obtain ⟨x, hx, rfl⟩ : ∃ x : Nat, D[i]? = some x ∧ u = .int .i64 (x : Int) := by
    simp only [NV, List.getElem?_map, Option.map_eq_some_iff] at hu
    obtain ⟨x, h1, h2⟩ := hu
    exact ⟨x, h1, h2.symm⟩
  obtain ⟨h1, h2⟩ := h
  rcases h2 with ⟨h2, h3⟩ | ⟨g', cap, cur', hv, hg', hh, h3, h4, h5, h6⟩
  · cases h2
  · injection hv with e1 e2 e3
    injection e1 with e1
    injection e1 with e1 e4
    subst e1
    refine ⟨g, x, rfl, hg', hg, hx, hc, Blk.frozen hh _, fun y => ?_⟩
    unfold RowN OwnV
    rw [show NV (D.set i y) = (NV D).set i (.int .i64 (y : Int)) by simp [NV, List.map_set], List.length_set]
    refine ⟨by simpa using h1, .inr ⟨g, cap, cur'.setIfInBounds i (.int .i64 (y : Int)), by rw [e3], hg', Blk.set_ hh _ _, h3, h4, by simpa using h5, ?_⟩⟩
    rw [Array.toList_setIfInBounds, List.take_set, h6]
/-- What stands for the change of two places. -/
theorem RowN.swap {W : World} {B c i j : Nat} {A : Option Addr} {D : List Nat} (h : RowN W B A c D) (hi : i < D.length) (hj : j < D.length) :
    ∃ g x y, A = some ⟨g, 0, none⟩ ∧ B ≤ g ∧ g < W.heap.size ∧ D[i]? = some x ∧ D[j]? = some y ∧ W.cell? ⟨g, i, none⟩ = some (.int .i64 (x : Int)) ∧ W.cell? ⟨g, j, none⟩ = some (.int .i64 (y : Int)) ∧ W.frozen? ⟨g, i, none⟩ = false ∧ W.frozen? ⟨g, j, none⟩ = false ∧
      RowN ((W.setCell ⟨g, i, none⟩ (.int .i64 (y : Int))).setCell ⟨g, j, none⟩ (.int .i64 (x : Int))) B A c (swp D i j) ∧
      Below B W ((W.setCell ⟨g, i, none⟩ (.int .i64 (y : Int))).setCell ⟨g, j, none⟩ (.int .i64 (x : Int))) := by
  obtain ⟨g, x, e, hg, hgl, hx, hc, hf, hput⟩ := h.at_ hi
  obtain ⟨g2, y, e2, _, _, hy, hc2, hf2, _⟩ := h.at_ hj
  subst e
  injection e2 with e2
  injection e2 with e2
  subst e2
  have h2 := hput y
  obtain ⟨g3, z, e3, _, _, _, _, _, hput2⟩ := h2.at_ (i := j) (by rw [List.length_set]; exact hj)
  injection e3 with e3
  injection e3 with e3
  subst e3
  refine ⟨g, x, y, rfl, hg, hgl, hx, hy, hc, hc2, hf, hf2, ?_, ?_⟩
  · have := hput2 x
    have e : (D.set i y).set j x = swp D i j := by
      unfold swp
      simp [List.getD, hx, hy]
    rw [e] at this
    exact this
  · exact ((Below.refl B W).setCell (p := ⟨g, i, none⟩) hg _).setCell (p := ⟨g, j, none⟩) hg _
set_option maxHeartbeats 1600000 in
theorem swapRange_any (A : Option Addr) (c a b n B : Nat) (fv : Value) (D : List Nat) (W : World) (h : RowN W B A c D) (hN : D.length ≤ 1000) (h1 : a + n ≤ D.length) (h2 : b + n ≤ D.length) (hd : a + n ≤ b ∨ b + n ≤ a) :
    Calls Try.prog 27 #[.slice A D.length c, .int .i64 (a : Int), .int .i64 (b : Int), .int .i64 (n : Int), fv] W fun r w' => r = .returned (.tuple #[]) ∧ ∃ D', SwR D D' a b n ∧ RowN w' B A c D' ∧ Below B W w' := by
  have HR := Lib.hid h
  clear h
  go_enter Try.func27, Try.ntmps27
  go_wp2_with fail
  go_loopw [10] (fun i wr => ∃ (k : Nat) (D' : List Nat), k ≤ n ∧ i = .int .i64 (k : Int) ∧ SwR D D' a b k ∧ RowN wr B A c D' ∧ Below B W wr) (fun i _ => n - (intOf i).toNat)
  case atStart => exact ⟨0, D, by omega, rfl, SwR.zero D a b, HR.out, Below.refl _ _⟩
  case round =>
    obtain ⟨k, D', hk, rfl, hs, hrow, hbel⟩ := hrel
    by_cases hlt : k < n
    · have hl := hs.1
      obtain ⟨g, x, y, e, hg, q5, hx, hy, q1, q2, q3, q4, hr2, hb2⟩ := hrow.swap (i := a + k) (j := b + k) (by omega) (by omega)
      have ST := Lib.hid (hs.step (by omega) (by omega) (by omega))
      have R2 := Lib.hid (hr2.drew 1)
      have B2 := Lib.hid (below_dT (hbel.trans hb2) 1)
      have i0 : (0 : Int) ≤ (a : Int) + k := by omega
      have i1 : (a : Int) + k < (D.length : Int) := by omega
      have i2 : (0 : Int) ≤ (b : Int) + k := by omega
      have i3 : (b : Int) + k < (D.length : Int) := by omega
      have w1 : IntKind.i64.wrap ((a : Int) + k) = (a : Int) + k := IntWalk.i64_in _ (by omega)
      have w2 : IntKind.i64.wrap ((b : Int) + k) = (b : Int) + k := IntWalk.i64_in _ (by omega)
      have t1 : ((a : Int) + k).toNat = a + k := by omega
      have t2 : ((b : Int) + k).toNat = b + k := by omega
      have hne : a + k ≠ b + k := by omega
      have hnb : n ≤ 1000 := by omega
      clear hs hrow hr2 hb2 hx hy hd h1 h2 hbel
      subst e
      go_wp2_with fail
      go_region
      go_wp2_with fail
      go_roundw
      case rel => exact ⟨k + 1, swp D' (a + k) (b + k), by omega, by go_num, ST.out, R2.out, B2.out⟩
      case measure => simp [intOf]; omega
    · have hd : decide ((k : Int) < n) = false := by simpa using hlt
      obtain rfl : k = n := by omega
      have HS := Lib.hid hs
      have R2 := Lib.hid hrow
      have B2 := Lib.hid hbel
      clear hs hrow hbel
      go_wp2_with fail
      first | go_end0 | go_ret
      exact ⟨rfl, D', HS.out, R2.out, B2.out⟩
end Go.Proofs.Ytchohcfcnghmlaa
