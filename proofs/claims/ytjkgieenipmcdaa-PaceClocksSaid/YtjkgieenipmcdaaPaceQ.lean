/-
  The reference's clock: Wait and Lost.
-/
import Derived.Test.YtjkgieenipmcdaaPaceE
import Derived.Test.YtjkgieenipmcdaaOpenT
namespace Go.Proofs.Ytjkgieenipmcdaa
open Go.RowKit
set_option linter.unusedVariables false

theorem rLost_any (C : CK) (w : World) (ok : CkOk C) :
    Calls Try.prog 16 #[.agg #[.int .u64 C.la, .int .u64 C.le, .int .u64 C.sm, .int .u64 C.va]] w fun r w' => r = .returned (.int .u64 (ckL C)) ∧ Below w.heap.size w w' := by
  obtain ⟨⟨a0, a1⟩, _, ⟨s0, s1⟩, _⟩ := ok
  unfold ckL
  generalize C.la = A at *
  generalize C.sm = S at *
  generalize C.le = L at *
  generalize C.va = V at *
  have hb := (Below.refl w.heap.size w).alloc (Nat.le_refl _) (.cells #[.int .u64 A, .int .u64 L, .int .u64 S, .int .u64 V] 29)
  have HB := Lib.hid hb
  clear hb
  rcases (show A < S ∨ S ≤ A by omega) with h | h
  · rcases (show 9 * S / 8 = 0 ∨ 0 < 9 * S / 8 by omega) with h2 | h2
    · omega
    · have hd : (9 * S / 8 == 0) = false := by simp; omega
      go_enter Try.func16, Try.ntmps16
      go_wp2
      go_ret
      exact ⟨congrArg (fun x => Ending.returned (Value.int .u64 x)) (show _ = _ by omega), HB.out⟩
  · rcases (show 9 * A / 8 = 0 ∨ 0 < 9 * A / 8 by omega) with h2 | h2
    · obtain rfl : A = 0 := by omega
      go_enter Try.func16, Try.ntmps16
      go_wp2
      go_ret
      exact ⟨congrArg (fun x => Ending.returned (Value.int .u64 x)) (show _ = _ by omega), HB.out⟩
    · have hd : (9 * A / 8 == 0) = false := by simp; omega
      go_enter Try.func16, Try.ntmps16
      go_wp2
      go_ret
      exact ⟨congrArg (fun x => Ending.returned (Value.int .u64 x)) (show _ = _ by omega), HB.out⟩

def Dbl (W : Int) (k : Nat) (M : Int) : Prop := 3 ≤ W ∧ M = W * 2 ^ k
theorem dbl_s {W : Int} {k : Nat} {M : Int} (h : Dbl W k M) : Dbl W (k + 1) (M * 2) := ⟨h.1, by rw [h.2, Int.pow_succ, Int.mul_assoc]⟩
theorem dbl_b {W : Int} {k : Nat} {M : Int} (h : Dbl W k M) (hW : W ≤ 5497558138882) (hk : k ≤ 20) (_h0 : 0 ≤ k) : 0 ≤ M ∧ M < 18446744073709551616 := by
  obtain ⟨h1, h2⟩ := h
  obtain ⟨h3, h4⟩ := two_pow_le hk
  rw [h2]
  constructor
  · exact Int.mul_nonneg (by omega) (by omega)
  · have : W * 2 ^ k ≤ 5497558138882 * 1048576 := Int.mul_le_mul hW h4 (by omega) (by omega)
    omega
theorem dbl_fin {W : Int} {k N : Nat} {M : Int} (h : Dbl W k M) (hk : k = N) : M = W * 2 ^ N := by rw [h.2, hk]
theorem rWait_any (C : CK) (t : Int) (w : World) (ok : CkOk C) (ht : (Lit.int .i64 t).wf = true) :
    Calls Try.prog 14 #[.agg #[.int .u64 C.la, .int .u64 C.le, .int .u64 C.sm, .int .u64 C.va], .int .i64 t] w fun r w' => r = .returned (.int .u64 (ckW C t)) ∧ Below w.heap.size w w' := by
  have hW0 := ckW0_ok ok
  obtain ⟨W0, hw0⟩ : ∃ W0, W0 = ckW0 C := ⟨_, rfl⟩
  have hWd : W0 = C.sm + max (4 * C.va) 1 + 2 := by rw [hw0]; rfl
  unfold ckW
  rw [← hw0] at hW0 ⊢
  obtain ⟨N, hN⟩ : ∃ N, N = trN t := ⟨_, rfl⟩
  rw [← hN]
  have hN1 : N ≤ 20 ∧ (N : Int) = min (max t 0) 20 := by rw [hN]; unfold trN; omega
  clear hN hw0
  obtain ⟨_, _, ⟨s0, s1⟩, ⟨v0, v1⟩⟩ := ok
  generalize C.la = A at *
  generalize C.sm = S at *
  generalize C.le = L at *
  generalize C.va = V at *
  obtain ⟨t0, t1⟩ := wf_i64 ht
  have hb := (Below.refl w.heap.size w).alloc (Nat.le_refl _) (.cells #[.int .u64 A, .int .u64 L, .int .u64 S, .int .u64 V] 29)
  have HB := Lib.hid hb
  clear hb ht
  have HWD := Lib.hid hWd
  clear hWd
  rcases (show V = 0 ∨ 0 < V by omega) with hv | hv
  · have hs : S + 2 + 1 = W0 := by have := HWD.out; omega
    obtain rfl := hv
    have HS := Lib.hid hs
    clear HWD hs
    go_enter Try.func14, Try.ntmps14
    go_wp2
    go_loop [6, 5] (fun i n => ∃ (k : Nat) (M : Int), k ≤ N ∧ i = .int .i64 k ∧ n = .int .u64 M ∧ Dbl W0 k M) (fun i _ => N - (intOf i).toNat)
    case atStart => exact ⟨0, W0, by omega, rfl, congrArg (Value.int .u64) (by have := HS.out; omega), ⟨hW0.1, by simp⟩⟩
    case round =>
      obtain ⟨k, M, hk, rfl, rfl, hM⟩ := hrel
      by_cases hlt : k < N
      · have l1 : (k : Int) < t := by omega
        have l2 : k < 20 := by omega
        have hM2 := dbl_s hM
        have hb2 := dbl_b hM2 hW0.2 (by omega) (by omega)
        have hb1 := dbl_b hM hW0.2 (by omega) (by omega)
        have HM2 := Lib.hid hM2
        clear hM hM2
        go_wp2
        go_round
        case rel => exact ⟨k + 1, M * 2, by omega, by go_num, rfl, HM2.out⟩
        case measure => simp [intOf]; omega
      · have hfin := dbl_fin hM (show k = N by omega)
        have HF := Lib.hid hfin
        clear hM hfin
        by_cases l1 : (k : Int) < t
        · have l2 : decide (k < 20) = false := by simp; omega
          go_wp2
          go_ret
          exact ⟨congrArg (fun x => Ending.returned (Value.int .u64 x)) HF.out, HB.out⟩
        · have l2 : decide ((k : Int) < t) = false := by simp; omega
          go_wp2
          go_ret
          exact ⟨congrArg (fun x => Ending.returned (Value.int .u64 x)) HF.out, HB.out⟩
  · have hs : S + 2 + 4 * V = W0 := by have := HWD.out; omega
    have hv2 : (V == 0) = false := by simp; omega
    have HS := Lib.hid hs
    clear HWD hs
    go_enter Try.func14, Try.ntmps14
    go_wp2
    go_loop [6, 5] (fun i n => ∃ (k : Nat) (M : Int), k ≤ N ∧ i = .int .i64 k ∧ n = .int .u64 M ∧ Dbl W0 k M) (fun i _ => N - (intOf i).toNat)
    case atStart => exact ⟨0, W0, by omega, rfl, congrArg (Value.int .u64) (by have := HS.out; omega), ⟨hW0.1, by simp⟩⟩
    case round =>
      obtain ⟨k, M, hk, rfl, rfl, hM⟩ := hrel
      by_cases hlt : k < N
      · have l1 : (k : Int) < t := by omega
        have l2 : k < 20 := by omega
        have hM2 := dbl_s hM
        have hb2 := dbl_b hM2 hW0.2 (by omega) (by omega)
        have hb1 := dbl_b hM hW0.2 (by omega) (by omega)
        have HM2 := Lib.hid hM2
        clear hM hM2
        go_wp2
        go_round
        case rel => exact ⟨k + 1, M * 2, by omega, by go_num, rfl, HM2.out⟩
        case measure => simp [intOf]; omega
      · have hfin := dbl_fin hM (show k = N by omega)
        have HF := Lib.hid hfin
        clear hM hfin
        by_cases l1 : (k : Int) < t
        · have l2 : decide (k < 20) = false := by simp; omega
          go_wp2
          go_ret
          exact ⟨congrArg (fun x => Ending.returned (Value.int .u64 x)) HF.out, HB.out⟩
        · have l2 : decide ((k : Int) < t) = false := by simp; omega
          go_wp2
          go_ret
          exact ⟨congrArg (fun x => Ending.returned (Value.int .u64 x)) HF.out, HB.out⟩
end Go.Proofs.Ytjkgieenipmcdaa
