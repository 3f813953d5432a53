import Derived.Test.YtpaglcojbcndoaaDoorVintG
namespace Go.Proofs.YtpaglcojbcndoaaDoor
open Go.RowKit
set_option linter.unusedVariables false

theorem vlen_ways (x : Int) (h0 : 0 ≤ x) (h1 : x < 256) : x / 64 = 0 ∧ vlen x = 1 ∨ x / 64 = 1 ∧ vlen x = 2 ∨ x / 64 = 2 ∧ vlen x = 4 ∨ x / 64 = 3 ∧ vlen x = 8 := by
  unfold vlen
  (repeat' split) <;> omega

theorem vlen_ways' (x z : Int) (s : Nat) (h0 : 0 ≤ x) (h1 : x < 256) (hs : s = vlen x) (hz : z = s) : x / 64 = 0 ∧ s = 1 ∧ z = 1 ∨ x / 64 = 1 ∧ s = 2 ∧ z = 2 ∨ x / 64 = 2 ∧ s = 4 ∧ z = 4 ∨ x / 64 = 3 ∧ s = 8 ∧ z = 8 := by
  have := vlen_ways x h0 h1
  omega
set_option maxHeartbeats 800000 in
theorem refTake_no (A : Option Addr) (c : Nat) (l : List Int) (w : World) (hr : Rd w A l) (hb : Bytes l) (hc : l.length ≤ c) (hl : l.length ≤ 70368744177664) (h0 : rdS l = 0) :
    Calls Tryd.prog 52 #[.slice A l.length c] w fun e w' => e = .returned (.tuple #[.int .u64 0, .slice none 0 0, .int .i64 2]) ∧ Below w.heap.size w w' := by
  match l, hr, hb, hc, hl, h0 with
  | [], hr, hb, hc, hl, h0 =>
    go_enter Tryd.func52, Tryd.ntmps52
    go_wp2
    go_ret3
    exact ⟨rfl, Below.refl _ _⟩
  | x :: r, hr, hb, hc, hl, h0 =>
    obtain ⟨b, off, rfl, hbw⟩ := hr.some_ (by simp)
    have h00 := hr.cell (j := 0) (x := x) rfl
    obtain ⟨n, hn⟩ : ∃ n, n = (x :: r).length := ⟨_, rfl⟩
    obtain ⟨hx0, hx1⟩ := hb x (by simp)
    simp only [Nat.add_zero] at h00
    have h1 : 0 < n := by rw [hn]; simp
    have hsh : n < vlen x := by
      rw [hn]
      simp only [rdS] at h0
      have := vlen_bd x
      split at h0 <;> omega
    rw [← hn]
    rw [← hn] at hc hl
    clear hn h0 hr hb
    have hn0 : ((n : Int) == 0) = false := by simp; omega
    rcases vlen_ways x hx0 hx1 with ⟨q, hv⟩ | ⟨q, hv⟩ | ⟨q, hv⟩ | ⟨q, hv⟩
    · omega
    all_goals
      rw [hv] at hsh
      clear hv
      go_enter Tryd.func52, Tryd.ntmps52
      go_wp2
      go_ret3
      exact ⟨rfl, (Below.refl _ _).alloc (Nat.le_refl _) _⟩

set_option maxHeartbeats 1600000 in
theorem refTake_yes (A : Option Addr) (c : Nat) (l : List Int) (w : World) (hr : Rd w A l) (hb : Bytes l) (hc : l.length ≤ c) (hl : l.length ≤ 70368744177664) (h0 : rdS l ≠ 0) :
    Calls Tryd.prog 52 #[.slice A l.length c] w fun e w' =>
      ∃ A' c', e = .returned (.tuple #[.int .u64 (rdN l), .slice A' (l.drop (rdS l)).length c', .int .i64 0]) ∧ Own w' w.heap.size A' c' (l.drop (rdS l)) ∧ Below w.heap.size w w' := by
  match l, hr, hb, hc, hl, h0 with
  | [], hr, hb, hc, hl, h0 => exact absurd rfl h0
  | x :: r, hr, hb, hc, hl, h0 =>
    obtain ⟨b, off, rfl, hbw⟩ := hr.some_ (by simp)
    have h00 := hr.cell (j := 0) (x := x) rfl
    obtain ⟨hx0, hx1⟩ := hb x (by simp)
    simp only [Nat.add_zero] at h00
    have hlt : ¬ (x :: r).length < vlen x := fun h => h0 (by simp only [rdS]; rw [if_pos h])
    have e1 : rdN (x :: r) = vfold (x % 64) (r.take (vlen x - 1)) := by simp only [rdN]; rw [if_neg hlt]
    have e2 : rdS (x :: r) = vlen x := by simp only [rdS]; rw [if_neg hlt]
    rw [e1, e2]
    clear e1 e2 h0
    obtain ⟨s, hsv⟩ : ∃ s, s = vlen x := ⟨_, rfl⟩
    obtain ⟨hs1, hs8⟩ := vlen_bd x
    rw [← hsv] at hlt hs1 hs8 ⊢
    obtain ⟨A4, v1, v2, v3⟩ := slice_from (some ⟨b, off, none⟩) c (x :: r) s .i64 (by omega) hc
    obtain ⟨z, hz⟩ : ∃ z : Int, z = s := ⟨_, rfl⟩
    rw [← hz] at v1
    obtain ⟨m2, hm2⟩ : ∃ m2, m2 = (x :: r).drop s := ⟨_, rfl⟩
    rw [← hm2] at v1 v2 ⊢
    have hrm := v2 _ hr
    have hml : m2.length ≤ 70368744177664 := by rw [hm2]; simp only [List.length_drop]; omega
    obtain ⟨n, hn⟩ : ∃ n, n = (x :: r).length := ⟨_, rfl⟩
    have hln := hn
    simp only [List.length_cons] at hln
    have hg : ∀ k, k < s - 1 → w.cell? ⟨b, off + 1 + k, none⟩ = some (.int .u8 (r.getD k 0)) := by
      intro k hk
      have hkr : k < r.length := by omega
      have := hr.cell (j := k + 1) (x := r[k]) (by simp [List.getElem?_eq_getElem hkr])
      rw [show off + 1 + k = off + (k + 1) by omega, this]
      simp [List.getD, List.getElem?_eq_getElem hkr]
    have hrb : ∀ k, k < s - 1 → 0 ≤ r.getD k 0 ∧ r.getD k 0 < 256 := by
      intro k hk
      have hkr : k < r.length := by omega
      simp only [List.getD, List.getElem?_eq_getElem hkr, Option.getD_some]
      exact hb _ (by simp)
    have hvb : ∀ k, k ≤ s - 1 → k ≤ 6 → 0 ≤ vfold (x % 64) (r.take k) ∧ vfold (x % 64) (r.take k) < 18014398509481984 := by
      intro k hk hk6
      exact vfold_lt _ _ (Bytes.take (fun y hy => hb y (by simp [hy])) k) (by omega) (by omega) (by simp; omega)
    have hvs : ∀ k, k < s - 1 → vfold (x % 64) (r.take (k + 1)) = vfold (x % 64) (r.take k) * 256 + r.getD k 0 := by
      intro k hk
      rw [take_snoc' r k (by omega), vfold_snoc]
    rw [← hn] at hlt hl hc v1 ⊢
    have HG := Lib.hid hg
    have HRB := Lib.hid hrb
    have HVB := Lib.hid hvb
    have HVS := Lib.hid hvs
    have HSV := Lib.hid hsv
    have h1 : 0 < n := by omega
    have hn0 : ((n : Int) == 0) = false := by simp; omega
    have hways := vlen_ways' x z s hx0 hx1 hsv hz
    have hm1 := hrm.alloc (.cells #[.int .i64 1, .int .i64 2, .int .i64 4, .int .i64 8] 3)
    have hsz1 : w.heap.size ≤ (w.alloc (.cells #[.int .i64 1, .int .i64 2, .int .i64 4, .int .i64 8] 3)).heap.size := by simp
    have hb1 : Below w.heap.size w (w.alloc (.cells #[.int .i64 1, .int .i64 2, .int .i64 4, .int .i64 8] 3)) := (Below.refl _ _).alloc (Nat.le_refl _) _
    have HM1 := Lib.hid hm1
    have HSZ1 := Lib.hid hsz1
    have HB1 := Lib.hid hb1
    clear hm1 hsz1 hb1
    clear hg hrb hvb hvs hln hm2 v2 v3 hr hb hsv hn hz
    have hcases : c = 1 ∨ c ≠ 1 := by omega
    rcases hcases with rfl | hc1
    all_goals rcases hways with ⟨q, rfl, rfl⟩ | ⟨q, rfl, rfl⟩ | ⟨q, rfl, rfl⟩ | ⟨q, rfl, rfl⟩
    all_goals try (exfalso; omega)
    all_goals
      go_enter Tryd.func52, Tryd.ntmps52
      go_wp2
    all_goals
      go_loop [6, 32] (fun v i => ∃ k : Nat, k ≤ vlen x - 1 ∧ i = .int .i64 k ∧ v = .int .u64 (vfold (x % 64) (r.take k))) (fun _ i => 8 - (intOf i).toNat)
      case atStart => exact ⟨0, by omega, rfl, rfl⟩
      case round =>
        obtain ⟨k, hk, rfl, rfl⟩ := hrel
        rw [← HSV.out] at hk
        by_cases hks : k < vlen x - 1
        · rw [← HSV.out] at hks
          have hg := HG.out k hks
          obtain ⟨y, hy⟩ : ∃ y, y = r.getD k 0 := ⟨_, rfl⟩
          rw [← hy] at hg
          obtain ⟨hy0, hy1⟩ := HRB.out k hks
          rw [← hy] at hy0 hy1
          have HY := Lib.hid hy
          obtain ⟨hv0, hv1⟩ := HVB.out k (by omega) (by omega)
          obtain ⟨v, hv⟩ : ∃ v, v = vfold (x % 64) (r.take k) := ⟨_, rfl⟩
          rw [← hv] at hv0 hv1 ⊢
          have HV := Lib.hid hv
          clear hy hv
          go_wp2
          all_goals first
            | omega
            | (go_round
               case rel =>
                 exact ⟨k + 1, by rw [← HSV.out]; omega, by go_num, by rw [HVS.out k hks, ← HY.out, ← HV.out]⟩
               case measure => simp [intOf]; omega)
        · rw [← HSV.out] at hks
          obtain rfl : k = vlen x - 1 := by rw [← HSV.out]; omega
          rw [← HSV.out]
          go_wp2_with (go_at_call 11; go_must (refine (copy_any A4 _ m2 _ (by exact HM1.out) hml).mono ?_); rintro e w' ⟨A2, c2, rfl, hown, hbel⟩)
          go_ret3
          exact ⟨A2, c2, rfl, hown.base_le HSZ1.out, HB1.out.trans (hbel.mono HSZ1.out)⟩
end Go.Proofs.YtpaglcojbcndoaaDoor
