/-
  turn: rotate.
-/
import Derived.Test.YtchohcfcnghmlaaTurnG
namespace Go.Proofs.Ytchohcfcnghmlaa
open Go.RowKit
set_option linter.unusedVariables false
set_option linter.unusedSimpArgs false
set_option maxHeartbeats 1600000 in
theorem rotate_any (A : Option Addr) (c a m b B : Nat) (fv : Value) (D : List Nat) (W : World) (h : RowN W B A c D) (hN : D.length ≤ 1000) (h1 : a < m) (h2 : m < b) (h3 : b ≤ D.length) :
    Calls Try.prog 26 #[.slice A D.length c, .int .i64 (a : Int), .int .i64 (m : Int), .int .i64 (b : Int), fv] W fun r w' => r = .returned (.tuple #[]) ∧ ∃ D' : List Nat, D'.length = D.length ∧ D'.Perm D ∧ (∀ x, D'[x]? = rotF D a m b x) ∧ RowN w' B A c D' ∧ Below B W w' := by
  have HR := Lib.hid h
  have hs1 : IntKind.i64.wrap ((m : Int) - a) = (m : Int) - a := IntWalk.i64_in _ (by omega)
  have hs2 : IntKind.i64.wrap ((b : Int) - m) = (b : Int) - m := IntWalk.i64_in _ (by omega)
  clear h
  go_enter Try.func26, Try.ntmps26
  go_wp2_with fail
  go_loopw [10, 11] (fun p q wr => ∃ (i j : Nat) (D' : List Nat), 0 < i ∧ 0 < j ∧ a + i ≤ m ∧ m + j ≤ b ∧ p = .int .i64 (i : Int) ∧ q = .int .i64 (j : Int) ∧ D'.length = D.length ∧ D'.Perm D ∧ (∀ x, rotF D' (m - i) m (m + j) x = rotF D a m b x) ∧ RowN wr B A c D' ∧ Below B W wr) (fun p q _ => (intOf p).toNat + (intOf q).toNat)
  case atStart =>
    refine ⟨m - a, b - m, D, by omega, by omega, by omega, by omega, by congr 1; omega, by congr 1; omega, rfl, List.Perm.refl _, fun x => ?_, HR.out, Below.refl _ _⟩
    rw [show m - (m - a) = a by omega, show m + (b - m) = b by omega]
  case round =>
    obtain ⟨i, j, D', i0, j0, hia, hjb, rfl, rfl, hl, hp, hx, hrow, hbel⟩ := hrel
    have w1 : IntKind.i64.wrap ((m : Int) - i) = (m : Int) - i := IntWalk.i64_in _ (by omega)
    have HL := Lib.hid hl
    have HP := Lib.hid hp
    have HX := Lib.hid hx
    have BB := Lib.hid hbel
    by_cases heq : i = j
    · subst heq
      have C := swapRange_any A c (m - i) m i B fv D' wr hrow (by omega) (by omega) (by omega) (by omega)
      rw [hl, show ((m - i : Nat) : Int) = (m : Int) - i by omega] at C
      have HC := Lib.hid C
      clear C hl hp hx hrow hbel
      go_wp2_with fail
      refine HC.out.mono ?_
      rintro e w2 ⟨rfl, D2, hs, hr2, hb2⟩
      have R2 := Lib.hid hr2
      have B2 := Lib.hid (BB.out.trans hb2)
      have L2 := Lib.hid (hs.1.trans HL.out)
      have P2 := Lib.hid (hs.2.1.trans HP.out)
      have X2 := Lib.hid (fun x => (rot_done (show i ≤ m by omega) hs x).trans (HX.out x))
      clear hs hr2 hb2 HC
      go_wp2_with fail
      first | go_end0 | go_ret
      exact ⟨rfl, D2, L2.out, P2.out, X2.out, R2.out, B2.out⟩
    · have hne : ¬ (i : Int) = j := by omega
      have hnd : decide ((i : Int) = j) = false := decide_eq_false hne
      by_cases hgt : j < i
      · have C := swapRange_any A c (m - i) m j B fv D' wr hrow (by omega) (by omega) (by omega) (by omega)
        rw [hl, show ((m - i : Nat) : Int) = (m : Int) - i by omega] at C
        have HC := Lib.hid C
        have hgi : (j : Int) < i := by omega
        have w2 : IntKind.i64.wrap ((i : Int) - j) = (i : Int) - j := IntWalk.i64_in _ (by omega)
        clear C hl hp hx hrow hbel
        go_wp2_with fail
        refine HC.out.mono ?_
        rintro e w2 ⟨rfl, D2, hs, hr2, hb2⟩
        have R2 := Lib.hid hr2
        have B2 := Lib.hid (BB.out.trans hb2)
        have L2 := Lib.hid (hs.1.trans HL.out)
        have P2 := Lib.hid (hs.2.1.trans HP.out)
        have X2 := Lib.hid (fun x => (rot_left (show i ≤ m by omega) hgt hs x).trans (HX.out x))
        clear hs hr2 hb2 HC
        go_wp2_with fail
        go_roundw
        case rel => exact ⟨i - j, j, D2, by omega, j0, by omega, hjb, by congr 1; omega, rfl, L2.out, P2.out, X2.out, R2.out, B2.out⟩
        case measure => simp [intOf]; omega
      · have C := swapRange_any A c (m - i) (m + j - i) i B fv D' wr hrow (by omega) (by omega) (by omega) (by omega)
        rw [hl, show ((m - i : Nat) : Int) = (m : Int) - i by omega, show ((m + j - i : Nat) : Int) = (m : Int) + j - i by omega] at C
        have HC := Lib.hid C
        have hgi : ¬ (j : Int) < i := by omega
        have hgd : decide ((j : Int) < i) = false := decide_eq_false hgi
        have w2 : IntKind.i64.wrap ((j : Int) - i) = (j : Int) - i := IntWalk.i64_in _ (by omega)
        have w3 : IntKind.i64.wrap ((m : Int) + j) = (m : Int) + j := IntWalk.i64_in _ (by omega)
        have w4 : IntKind.i64.wrap ((m : Int) + j - i) = (m : Int) + j - i := IntWalk.i64_in _ (by omega)
        clear C hl hp hx hrow hbel
        go_wp2_with fail
        refine HC.out.mono ?_
        rintro e w2 ⟨rfl, D2, hs, hr2, hb2⟩
        have R2 := Lib.hid hr2
        have B2 := Lib.hid (BB.out.trans hb2)
        have L2 := Lib.hid (hs.1.trans HL.out)
        have P2 := Lib.hid (hs.2.1.trans HP.out)
        have X2 := Lib.hid (fun x => (rot_right (show i ≤ m by omega) (show i < j by omega) hs x).trans (HX.out x))
        clear hs hr2 hb2 HC
        go_wp2_with fail
        go_roundw
        case rel => exact ⟨i, j - i, D2, i0, by omega, hia, by omega, rfl, by congr 1; omega, L2.out, P2.out, X2.out, R2.out, B2.out⟩
        case measure => simp [intOf]; omega
end Go.Proofs.Ytchohcfcnghmlaa
