/-
  same: of two arrays of sixteen bytes.
-/
import Derived.Test.YtpedajjmbdjfiaaSaltF
namespace Go.Proofs.Ytpedajjmbdjfiaa
open Go.RowKit
set_option linter.unusedVariables false

theorem orxor8 {d x y : Int} (hd : 0 ≤ d ∧ d < 256) (hx : 0 ≤ x ∧ x < 256) (hy : 0 ≤ y ∧ y < 256) : (0 ≤ bits .or .u8 d (bits .xor .u8 x y) ∧ bits .or .u8 d (bits .xor .u8 x y) < 256) ∧ (bits .or .u8 d (bits .xor .u8 x y) = 0 ↔ d = 0 ∧ x = y) := by
  obtain ⟨a, rfl⟩ := Int.eq_ofNat_of_zero_le hd.1
  obtain ⟨b, rfl⟩ := Int.eq_ofNat_of_zero_le hx.1
  obtain ⟨c, rfl⟩ := Int.eq_ofNat_of_zero_le hy.1
  have h1 : b ^^^ c < 2 ^ 8 := Nat.xor_lt_two_pow (by omega) (by omega)
  rw [u8_xor_nat b c (by omega) (by omega), u8_or_nat a (b ^^^ c) (by omega) (by omega)]
  have h2 : a ||| (b ^^^ c) < 2 ^ 8 := Nat.or_lt_two_pow (by omega) (by omega)
  refine ⟨by omega, ?_⟩
  have h3 : a ||| (b ^^^ c) = 0 ↔ a = 0 ∧ b ^^^ c = 0 := Nat.or_eq_zero_iff
  have h4 : b ^^^ c = 0 ↔ b = c := by
    constructor
    · intro h
      have e : (b ^^^ c) ^^^ c = 0 ^^^ c := by rw [h]
      rwa [Nat.xor_assoc, Nat.xor_self, Nat.xor_zero, Nat.zero_xor] at e
    · rintro rfl; exact Nat.xor_self _
  omega

theorem only_below_drewN {B : Nat} {a w : World} (h : Below B a w) (n : Nat) : Below B a (w.drewN n) := ⟨h.os, h.tape, h.output, h.size, h.block⟩
set_option maxHeartbeats 800000 in
theorem same_arr (a b : List Int) (w : World) (la : a.length = 16) (lb : b.length = 16) (h1 : Bytes a) (h2 : Bytes b) :
    Calls Try.prog 32 #[.agg (IV .u8 a).toArray, .agg (IV .u8 b).toArray] w fun r w' => r = .returned (.bool (decide (a = b))) ∧ Below w.heap.size w w' := by
  obtain ⟨R, hR⟩ : ∃ R, R = decide (a = b) := ⟨_, rfl⟩
  rw [← hR]
  have HR := Lib.hid hR
  obtain ⟨AA, hAA⟩ : ∃ AA, AA = (IV .u8 a).toArray := ⟨_, rfl⟩
  obtain ⟨BB, hBB⟩ : ∃ BB, BB = (IV .u8 b).toArray := ⟨_, rfl⟩
  rw [← hAA, ← hBB]
  have HAA := Lib.hid hAA
  have HBB := Lib.hid hBB
  have SA := Lib.hid (show AA.size = 16 by rw [hAA]; simp [IV, la])
  have SB := Lib.hid (show BB.size = 16 by rw [hBB]; simp [IV, lb])
  have I16 := Lib.hid (show (Try.prog.info? 25).map (·.size) = some 16 by kernel_rfl)
  have LA := Lib.hid la
  have LB := Lib.hid lb
  have H1 := Lib.hid h1
  have H2 := Lib.hid h2
  clear hR hAA hBB la lb h1 h2
  go_enter Try.func32, Try.ntmps32
  go_wp2_with fail
  obtain ⟨W, hW⟩ : ∃ W, W = (w.alloc (.cells AA 25)).alloc (.cells BB 25) := ⟨_, rfl⟩
  have bA : Blk W w.heap.size 25 (IV .u8 a).toArray := by rw [hW, ← HAA.out]; exact (Blk.new w _ AA).alloc _
  have bB : Blk W (w.heap.size + 1) 25 (IV .u8 b).toArray := by rw [hW, ← HBB.out]; exact blk_second w _ _ BB
  have bL : Below w.heap.size w W := by rw [hW]; exact ((Below.refl _ _).alloc (Nat.le_refl _) _).alloc (by simp) _
  show Code.wp _ _ _ _ ((w.alloc (.cells AA 25)).alloc (.cells BB 25))
  rw [← hW]
  have BA := Lib.hid bA
  have BB' := Lib.hid bB
  have BLL := Lib.hid bL
  clear bA bB bL hW
  go_loopw [5, 7] (fun dv i wr => ∃ (k : Nat) (D : Int), k ≤ 16 ∧ i = .int .i64 k ∧ dv = .int .u8 D ∧ (0 ≤ D ∧ D < 256) ∧ (D = 0 ↔ a.take k = b.take k) ∧ ∃ n, wr = W.drewN n) (fun _ i _ => 16 - (intOf i).toNat)
  case atStart => exact ⟨0, 0, by omega, rfl, rfl, ⟨by omega, by omega⟩, by simp, 0, rfl⟩
  case round =>
    obtain ⟨k, D, hk, rfl, rfl, hD, hDz, n, hwn⟩ := hrel
    by_cases hkl : k < 16
    · have hka : k < a.length := by have := LA.out; omega
      have hkb : k < b.length := by have := LB.out; omega
      have c1 : wr.cell? ⟨w.heap.size, k, none⟩ = some (.int .u8 a[k]) := by rw [hwn]; exact (BA.out.drewN n).cell_i (List.getElem?_eq_getElem hka)
      have c2 : wr.cell? ⟨w.heap.size + 1, k, none⟩ = some (.int .u8 b[k]) := by rw [hwn]; exact (BB'.out.drewN n).cell_i (List.getElem?_eq_getElem hkb)
      have q1 := H1.out _ (List.getElem_mem hka)
      have q2 := H2.out _ (List.getElem_mem hkb)
      obtain ⟨x, hx⟩ : ∃ x, x = a[k] := ⟨_, rfl⟩
      obtain ⟨y, hy⟩ : ∃ y, y = b[k] := ⟨_, rfl⟩
      rw [← hx] at c1 q1
      rw [← hy] at c2 q2
      have hz := orxor8 hD q1 q2
      have hnew : (bits .or .u8 D (bits .xor .u8 x y) = 0 ↔ a.take (k + 1) = b.take (k + 1)) := by
        rw [hz.2, hDz, List.take_succ_eq_append_getElem hka, List.take_succ_eq_append_getElem hkb, ← hx, ← hy]
        constructor
        · rintro ⟨e1, e2⟩
          rw [e1, e2]
        · intro e
          have := List.append_inj' e rfl
          exact ⟨this.1, by simpa using this.2⟩
      have HZ := Lib.hid hz.1
      have HN := Lib.hid hnew
      have j1 : (0 : Int) ≤ (k : Int) := by omega
      have j2 : (k : Int) < 16 := by omega
      have HWN := Lib.hid hwn
      clear hDz hz hnew hx hy hwn hka hkb
      go_wp2_with fail
      go_quiet (fail)
      go_wp2_with fail
      go_roundw
      case rel => exact ⟨k + 1, _, by omega, by go_num, rfl, HZ.out, HN.out, _, by rw [HWN.out, World.drewN_drewN]⟩
      case measure => simp [intOf]; omega
    · have hk16 : k = 16 := by omega
      rw [hk16, List.take_of_length_le (by have := LA.out; omega), List.take_of_length_le (by have := LB.out; omega)] at hDz
      have hfin : (D == 0) = R := by
        rw [HR.out]
        have e0 : (D == 0) = decide (D = 0) := by by_cases h : D = 0 <;> simp [h]
        rw [e0]
        by_cases h : D = 0
        · rw [decide_eq_true h, decide_eq_true (hDz.1 h)]
        · rw [decide_eq_false h, decide_eq_false (fun e => h (hDz.2 e))]
      have HF := Lib.hid hfin
      have HWN := Lib.hid hwn
      have j2 : ¬ ((k : Int) < 16) := by omega
      clear hfin hDz hwn hk16
      go_wp2_with fail
      go_ret
      exact ⟨by simp [← HF.out], by rw [HWN.out]; exact only_below_drewN BLL.out n⟩
end Go.Proofs.Ytpedajjmbdjfiaa
