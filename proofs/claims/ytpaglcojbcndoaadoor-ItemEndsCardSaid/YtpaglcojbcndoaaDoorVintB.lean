import Derived.Test.YtpaglcojbcndoaaDoorVintA
import Derived.Test.YtpaglcojbcndoaaDoorBytesA
namespace Go.Proofs.YtpaglcojbcndoaaDoor
open Go.RowKit
set_option linter.unusedVariables false

set_option maxHeartbeats 400000 in
theorem read_any (A : Option Addr) (c : Nat) (l : List Int) (w : World) (hr : Rd w A l) (hb : Bytes l) (hc : l.length ≤ c) (hl : l.length ≤ 70368744177664) :
    Calls Tryd.prog 66 #[.slice A l.length c] w fun e w' => e = .returned (.tuple #[.int .u64 (rdN l), .int .i64 (rdS l)]) ∧ w = w' := by
  match l, hr, hb, hc, hl with
  | [], hr, hb, hc, hl =>
    go_enter Tryd.func66, Tryd.ntmps66
    go_wp2
    go_ret2
    exact ⟨rfl, rfl⟩
  | x :: r, hr, hb, hc, hl =>
    obtain ⟨b, off, rfl, hbw⟩ := hr.some_ (by simp)
    have h0 := hr.cell (j := 0) (x := x) rfl
    obtain ⟨n, hn⟩ : ∃ n, n = (x :: r).length := ⟨_, rfl⟩
    obtain ⟨hx0, hx1⟩ := hb x (by simp)
    simp only [Nat.add_zero] at h0
    have h1 : 0 < n := by rw [hn]; simp
    rw [← hn]
    have HN := Lib.hid hn
    rw [← hn] at hc hl
    clear hn
    have hs := vlen_pow x hx0 hx1
    have hn0 : ((n : Int) == 0) = false := by simp; omega
    obtain ⟨s, hsv⟩ : ∃ s, s = vlen x := ⟨_, rfl⟩
    rw [← hsv] at hs
    have HSV := Lib.hid hsv
    obtain ⟨hs1, hs8⟩ := vlen_bd x
    rw [← hsv] at hs1 hs8
    have HR := Lib.hid hr
    have HB := Lib.hid hb
    clear hsv hr hb
    by_cases hlt : n < s
    · have e1 : rdN (x :: r) = 0 := by simp only [rdN]; rw [if_pos (by rw [← HN.out, ← HSV.out]; exact hlt)]
      have e2 : rdS (x :: r) = 0 := by simp only [rdS]; rw [if_pos (by rw [← HN.out, ← HSV.out]; exact hlt)]
      rw [e1, e2]
      clear e1 e2
      go_enter Tryd.func66, Tryd.ntmps66
      go_wp2
      go_ret2
      exact ⟨rfl, rfl⟩
    · have e1 : rdN (x :: r) = vfold (x % 64) (r.take (s - 1)) := by simp only [rdN]; rw [if_neg (by rw [← HN.out, ← HSV.out]; exact hlt), HSV.out]
      have e2 : rdS (x :: r) = s := by simp only [rdS]; rw [if_neg (by rw [← HN.out, ← HSV.out]; exact hlt), HSV.out]
      rw [e1, e2]
      clear e1 e2
      have hg : ∀ k, k < s - 1 → w.cell? ⟨b, off + 1 + k, none⟩ = some (.int .u8 (r.getD k 0)) := by
        intro k hk
        have hln := HN.out
        simp only [List.length_cons] at hln
        have hkr : k < r.length := by omega
        have := HR.out.cell (j := k + 1) (x := r[k]) (by simp [List.getElem?_eq_getElem hkr])
        rw [show off + 1 + k = off + (k + 1) by omega, this]
        simp [List.getD, List.getElem?_eq_getElem hkr]
      have hrb : ∀ k, k < s - 1 → 0 ≤ r.getD k 0 ∧ r.getD k 0 < 256 := by
        intro k hk
        have hln := HN.out
        simp only [List.length_cons] at hln
        have hkr : k < r.length := by omega
        simp only [List.getD, List.getElem?_eq_getElem hkr, Option.getD_some]
        exact HB.out _ (by simp)
      have hvb : ∀ k, k ≤ s - 1 → k ≤ 6 → 0 ≤ vfold (x % 64) (r.take k) ∧ vfold (x % 64) (r.take k) < 18014398509481984 := by
        intro k hk hk6
        exact vfold_lt _ _ (Bytes.take (fun y hy => HB.out y (by simp [hy])) k) (by omega) (by omega) (by simp; omega)
      have hvs : ∀ k, k < s - 1 → vfold (x % 64) (r.take (k + 1)) = vfold (x % 64) (r.take k) * 256 + r.getD k 0 := by
        intro k hk
        have hln := HN.out
        simp only [List.length_cons] at hln
        rw [take_snoc' r k (by omega), vfold_snoc]
      have HG := Lib.hid hg
      have HRB := Lib.hid hrb
      have HVB := Lib.hid hvb
      have HVS := Lib.hid hvs
      clear hg hrb hvb hvs
      go_enter Tryd.func66, Tryd.ntmps66
      go_wp2
      all_goals
        go_loop [5, 29] (fun v i => ∃ k : Nat, k ≤ s - 1 ∧ i = .int .i64 k ∧ v = .int .u64 (vfold (x % 64) (r.take k))) (fun _ i => s - (intOf i).toNat)
        case atStart => exact ⟨0, by omega, rfl, rfl⟩
        case round =>
          obtain ⟨k, hk, rfl, rfl⟩ := hrel
          by_cases hks : k < s - 1
          · have hg := HG.out k hks
            obtain ⟨y, hy⟩ : ∃ y, y = r.getD k 0 := ⟨_, rfl⟩
            rw [← hy] at hg
            obtain ⟨hy0, hy1⟩ := HRB.out k hks
            rw [← hy] at hy0 hy1
            have HY := Lib.hid hy
            clear hy
            go_wp2
            all_goals first
              | omega
              | (go_round
                 case rel =>
                   obtain ⟨hv0, hv1⟩ := HVB.out k (by omega) (by omega)
                   exact ⟨k + 1, by omega, by go_num, by rw [or_join _ _ hv0 hv1 hy0 hy1, HVS.out k hks, HY.out]⟩
                 case measure => simp [intOf]; omega)
          · obtain rfl : k = s - 1 := by omega
            go_wp2
            go_ret2
            exact ⟨rfl, rfl⟩
end Go.Proofs.YtpaglcojbcndoaaDoor
