/-
  Joined texts.
-/
import Derived.Test.YtfedofoadfipcaaDoorVintG
namespace Go.Proofs.YtfedofoadfipcaaDoor
open Go.RowKit
set_option linter.unusedVariables false

theorem vlen_ways (x : Int) (h0 : 0 ≤ x) (h1 : x < 256) : x / 64 = 0 ∧ vlen x = 1 ∨ x / 64 = 1 ∧ vlen x = 2 ∨ x / 64 = 2 ∧ vlen x = 4 ∨ x / 64 = 3 ∧ vlen x = 8 := by
  unfold vlen
  (repeat' split) <;> omega

theorem vlen_ways' (x z : Int) (s : Nat) (h0 : 0 ≤ x) (h1 : x < 256) (hs : s = vlen x) (hz : z = s) : x / 64 = 0 ∧ s = 1 ∧ z = 1 ∨ x / 64 = 1 ∧ s = 2 ∧ z = 2 ∨ x / 64 = 2 ∧ s = 4 ∧ z = 4 ∨ x / 64 = 3 ∧ s = 8 ∧ z = 8 := by
  have := vlen_ways x h0 h1
  omega
set_option maxHeartbeats 800000 in
theorem refTake_no (A : Option Addr) (c : Nat) (l : List Int) (w : World) (hr : Rd w A l) (hb : Bytes l) (hc : l.length ≤ c) (hl : l.length ≤ 70368744177664) (h0 : rdS l = 0) :
    Calls Tryd.prog 41 #[.slice A l.length c] w fun e w' => e = .returned (.tuple #[.int .u64 0, .slice none 0 0, .int .i64 2]) ∧ Below w.heap.size w w' := by
  match l, hr, hb, hc, hl, h0 with
  | [], hr, hb, hc, hl, h0 =>
    go_enter Tryd.func41, Tryd.ntmps41
    go_wp2
    go_ret3
    exact ⟨rfl, Below.refl _ _⟩
  | x :: r, hr, hb, hc, hl, h0 =>
    obtain ⟨b, off, rfl, hbw⟩ := hr.some_ (by simp)
    have h00 := hr.cell (j := 0) (x := x) rfl
    obtain ⟨n, hn⟩ : ∃ n, n = (x :: r).length := ⟨_, rfl⟩
    obtain ⟨hx0, hx1⟩ := hb x (by simp)
    simp only [Nat.add_zero] at h00
    have h1 : 0 < n := by rw [hn]; simp
    have hsh : n < vlen x := by
      rw [hn]
      simp only [rdS] at h0
      have := vlen_bd x
      split at h0 <;> omega
    rw [← hn]
    rw [← hn] at hc hl
    clear hn h0 hr hb
    have hn0 : ((n : Int) == 0) = false := by simp; omega
    rcases vlen_ways x hx0 hx1 with ⟨q, hv⟩ | ⟨q, hv⟩ | ⟨q, hv⟩ | ⟨q, hv⟩
    · omega
    all_goals
      rw [hv] at hsh
      clear hv
      go_enter Tryd.func41, Tryd.ntmps41
      go_wp2
      go_ret3
      exact ⟨rfl, (Below.refl _ _).alloc (Nat.le_refl _) _⟩

set_option maxHeartbeats 1600000 in
theorem refTake_yes (A : Option Addr) (c : Nat) (l : List Int) (w : World) (hr : Rd w A l) (hb : Bytes l) (hc : l.length ≤ c) (hl : l.length ≤ 70368744177664) (h0 : rdS l ≠ 0) :
    Calls Tryd.prog 41 #[.slice A l.length c] w fun e w' =>
      ∃ A' c', e = .returned (.tuple #[.int .u64 (rdN l), .slice A' (l.drop (rdS l)).length c', .int .i64 0]) ∧ Own w' w.heap.size A' c' (l.drop (rdS l)) ∧ Below w.heap.size w w' := by
  match l, hr, hb, hc, hl, h0 with
  | [], hr, hb, hc, hl, h0 => exact absurd rfl h0
  | x :: r, hr, hb, hc, hl, h0 =>
    obtain ⟨b, off, rfl, hbw⟩ := hr.some_ (by simp)
    have h00 := hr.cell (j := 0) (x := x) rfl
    obtain ⟨hx0, hx1⟩ := hb x (by simp)
    simp only [Nat.add_zero] at h00
    have hlt : ¬ (x :: r).length < vlen x := fun h => h0 (by simp only [rdS]; rw [if_pos h])
    have e1 : rdN (x :: r) = vfold (x % 64) (r.take (vlen x - 1)) := by simp only [rdN]; rw [if_neg hlt]
    have e2 : rdS (x :: r) = vlen x := by simp only [rdS]; rw [if_neg hlt]
    rw [e1, e2]
    clear e1 e2 h0
    obtain ⟨s, hsv⟩ : ∃ s, s = vlen x := ⟨_, rfl⟩
    obtain ⟨hs1, hs8⟩ := vlen_bd x
    rw [← hsv] at hlt hs1 hs8 ⊢
    obtain ⟨A4, v1, v2, v3⟩ := slice_from (some ⟨b, off, none⟩) c (x :: r) s .i64 (by omega) hc
    obtain ⟨z, hz⟩ : ∃ z : Int, z = s := ⟨_, rfl⟩
    rw [← hz] at v1
    obtain ⟨m2, hm2⟩ : ∃ m2, m2 = (x :: r).drop s := ⟨_, rfl⟩
    rw [← hm2] at v1 v2 ⊢
    have hrm := v2 _ hr
    have hml : m2.length ≤ 70368744177664 := by rw [hm2]; simp only [List.length_drop]; omega
    obtain ⟨n, hn⟩ : ∃ n, n = (x :: r).length := ⟨_, rfl⟩
    have hln := hn
    simp only [List.length_cons] at hln
    have hg : ∀ k, k < s - 1 → w.cell? ⟨b, off + 1 + k, none⟩ = some (.int .u8 (r.getD k 0)) := by
      intro k hk
      have hkr : k < r.length := by omega
      have := hr.cell (j := k + 1) (x := r[k]) (by simp [List.getElem?_eq_getElem hkr])
      rw [show off + 1 + k = off + (k + 1) by omega, this]
      simp [List.getD, List.getElem?_eq_getElem hkr]
    have hrb : ∀ k, k < s - 1 → 0 ≤ r.getD k 0 ∧ r.getD k 0 < 256 := by
      intro k hk
      have hkr : k < r.length := by omega
      simp only [List.getD, List.getElem?_eq_getElem hkr, Option.getD_some]
      exact hb _ (by simp)
    have hvb : ∀ k, k ≤ s - 1 → k ≤ 6 → 0 ≤ vfold (x % 64) (r.take k) ∧ vfold (x % 64) (r.take k) < 18014398509481984 := by
      intro k hk hk6
      exact vfold_lt _ _ (Bytes.take (fun y hy => hb y (by simp [hy])) k) (by omega) (by omega) (by simp; omega)
    have hvs : ∀ k, k < s - 1 → vfold (x % 64) (r.take (k + 1)) = vfold (x % 64) (r.take k) * 256 + r.getD k 0 := by
      intro k hk
      rw [take_snoc' r k (by omega), vfold_snoc]
    rw [← hn] at hlt hl hc v1 ⊢
    have HG := Lib.hid hg
    have HRB := Lib.hid hrb
    have HVB := Lib.hid hvb
    have HVS := Lib.hid hvs
    have HSV := Lib.hid hsv
    have h1 : 0 < n := by omega
    have hn0 : ((n : Int) == 0) = false := by simp; omega
    have hways := vlen_ways' x z s hx0 hx1 hsv hz
    have hm1 := hrm.alloc (.cells #[.int .i64 1, .int .i64 2, .int .i64 4, .int .i64 8] 3)
    have hsz1 : w.heap.size ≤ (w.alloc (.cells #[.int .i64 1, .int .i64 2, .int .i64 4, .int .i64 8] 3)).heap.size := by simp
    have hb1 : Below w.heap.size w (w.alloc (.cells #[.int .i64 1, .int .i64 2, .int .i64 4, .int .i64 8] 3)) := (Below.refl _ _).alloc (Nat.le_refl _) _
    have HM1 := Lib.hid hm1
    have HSZ1 := Lib.hid hsz1
    have HB1 := Lib.hid hb1
    clear hm1 hsz1 hb1
    clear hg hrb hvb hvs hln hm2 v2 v3 hr hb hsv hn hz
    have hcases : c = 1 ∨ c ≠ 1 := by omega
    rcases hcases with rfl | hc1
    all_goals rcases hways with ⟨q, rfl, rfl⟩ | ⟨q, rfl, rfl⟩ | ⟨q, rfl, rfl⟩ | ⟨q, rfl, rfl⟩
    all_goals try (exfalso; omega)
    all_goals
      go_enter Tryd.func41, Tryd.ntmps41
      go_wp2
    all_goals
      go_loop [6, 32] (fun v i => ∃ k : Nat, k ≤ vlen x - 1 ∧ i = .int .i64 k ∧ v = .int .u64 (vfold (x % 64) (r.take k))) (fun _ i => 8 - (intOf i).toNat)
      case atStart => exact ⟨0, by omega, rfl, rfl⟩
      case round =>
        obtain ⟨k, hk, rfl, rfl⟩ := hrel
        rw [← HSV.out] at hk
        by_cases hks : k < vlen x - 1
        · rw [← HSV.out] at hks
          have hg := HG.out k hks
          obtain ⟨y, hy⟩ : ∃ y, y = r.getD k 0 := ⟨_, rfl⟩
          rw [← hy] at hg
          obtain ⟨hy0, hy1⟩ := HRB.out k hks
          rw [← hy] at hy0 hy1
          have HY := Lib.hid hy
          obtain ⟨hv0, hv1⟩ := HVB.out k (by omega) (by omega)
          obtain ⟨v, hv⟩ : ∃ v, v = vfold (x % 64) (r.take k) := ⟨_, rfl⟩
          rw [← hv] at hv0 hv1 ⊢
          have HV := Lib.hid hv
          clear hy hv
          go_wp2
          all_goals first
            | omega
            | (go_round
               case rel =>
                 exact ⟨k + 1, by rw [← HSV.out]; omega, by go_num, by rw [HVS.out k hks, ← HY.out, ← HV.out]⟩
               case measure => simp [intOf]; omega)
        · rw [← HSV.out] at hks
          obtain rfl : k = vlen x - 1 := by rw [← HSV.out]; omega
          rw [← HSV.out]
          go_wp2_with (go_at_call 17; go_must (refine (copy_any A4 _ m2 _ (by exact HM1.out) hml).mono ?_); rintro e w' ⟨A2, c2, rfl, hown, hbel⟩)
          go_ret3
          exact ⟨A2, c2, rfl, hown.base_le HSZ1.out, HB1.out.trans (hbel.mono HSZ1.out)⟩
end Go.Proofs.YtfedofoadfipcaaDoor

namespace Go.Proofs.YtfedofoadfipcaaDoor
open Go.RowKit
set_option linter.unusedVariables false

set_option maxHeartbeats 800000 in
theorem refTT_bad (A : Option Addr) (c : Nat) (l : List Int) (most E : Int) (w : World) (hr : Rd w A l) (hb : Bytes l) (hc : l.length ≤ c) (hl : l.length ≤ 70368744177664) (hm : most < 9223372036854775808)
    (hE : vtkE l most = E) (hE0 : E ≠ 0) :
    Calls Tryd.prog 42 #[.slice A l.length c, .int .i64 most] w fun e w' => e = .returned (.tuple #[.slice none 0 0, .slice none 0 0, .int .i64 E]) ∧ Below w.heap.size w w' := by
  have hnn := rdN_nonneg l hb
  have hsl := rdS_le l
  unfold vtkE at hE
  by_cases h0 : rdS l = 0
  · rw [if_pos h0] at hE
    subst hE
    have H0 := Lib.hid h0
    clear h0 hE0
    go_enter Tryd.func42, Tryd.ntmps42
    go_wp2_with fail
    refine (refTake_no _ _ _ _ hr hb hc hl H0.out).mono ?_
    rintro e w' ⟨rfl, hbel⟩
    go_wp2
    go_ret3
    exact ⟨rfl, hbel⟩
  · rw [if_neg h0] at hE
    have H0 := Lib.hid h0
    obtain ⟨m, hm'⟩ : ∃ m, m = l.drop (rdS l) := ⟨_, rfl⟩
    obtain ⟨n, hn⟩ : ∃ n, n = rdN l := ⟨_, rfl⟩
    rw [← hn] at hE hnn
    rw [← hm'] at hE
    have hml : m.length ≤ 70368744177664 := by rw [hm']; simp; omega
    have hwl : IntKind.u64.wrap (m.length : Int) = m.length := by rw [IntKind.wrap_u64]; omega
    have HN := Lib.hid hn
    have HM := Lib.hid hm'
    clear hn hm' h0
    by_cases hneg : most < 0
    · rw [if_pos (.inl hneg)] at hE
      subst hE
      clear hE0
      go_enter Tryd.func42, Tryd.ntmps42
      go_wp2_with fail
      refine (refTake_yes _ _ _ _ hr hb hc hl H0.out).mono ?_
      rintro e w' ⟨A', c', rfl, hown, hbel⟩
      rw [← HN.out, ← HM.out]
      go_wp2
      go_ret3
      exact ⟨rfl, hbel⟩
    · have hw : IntKind.u64.wrap most = most := by rw [IntKind.wrap_u64]; omega
      by_cases hlong : most < n
      · rw [if_pos (.inr hlong)] at hE
        subst hE
        clear hE0
        go_enter Tryd.func42, Tryd.ntmps42
        go_wp2_with fail
        refine (refTake_yes _ _ _ _ hr hb hc hl H0.out).mono ?_
        rintro e w' ⟨A', c', rfl, hown, hbel⟩
        rw [← HN.out, ← HM.out]
        go_wp2
        go_ret3
        exact ⟨rfl, hbel⟩
      · rw [if_neg (by omega)] at hE
        by_cases hsh : (m.length : Int) < n
        · rw [if_pos hsh] at hE
          subst hE
          clear hE0
          go_enter Tryd.func42, Tryd.ntmps42
          go_wp2_with fail
          refine (refTake_yes _ _ _ _ hr hb hc hl H0.out).mono ?_
          rintro e w' ⟨A', c', rfl, hown, hbel⟩
          rw [← HN.out, ← HM.out]
          go_wp2
          go_ret3
          exact ⟨rfl, hbel⟩
        · rw [if_neg hsh] at hE
          exact absurd hE.symm hE0

set_option maxHeartbeats 800000 in
theorem refTT_ok (A : Option Addr) (c : Nat) (l : List Int) (most : Int) (w : World) (hr : Rd w A l) (hb : Bytes l) (hc : l.length ≤ c) (hl : l.length ≤ 70368744177664) (hm : most < 9223372036854775808)
    (hE : vtkE l most = 0) :
    Calls Tryd.prog 42 #[.slice A l.length c, .int .i64 most] w fun e w' =>
      ∃ A1 c1 A2 c2, e = .returned (.tuple #[.slice A1 (vtkT l).length c1, .slice A2 (vtkR l).length c2, .int .i64 0]) ∧
        Own w' w.heap.size A1 c1 (vtkT l) ∧ Own w' w.heap.size A2 c2 (vtkR l) ∧ Below w.heap.size w w' := by
  have hnn := rdN_nonneg l hb
  have hsl := rdS_le l
  unfold vtkE at hE
  unfold vtkT vtkR
  have h0 : rdS l ≠ 0 := fun h => by rw [if_pos h] at hE; cases hE
  rw [if_neg h0] at hE
  have H0 := Lib.hid h0
  obtain ⟨m, hm'⟩ : ∃ m, m = l.drop (rdS l) := ⟨_, rfl⟩
  obtain ⟨n, hn⟩ : ∃ n, n = rdN l := ⟨_, rfl⟩
  rw [← hn] at hE hnn ⊢
  rw [← hm'] at hE ⊢
  have h1 : ¬ (most < 0 ∨ most < n) := fun h => by rw [if_pos h] at hE; cases hE
  rw [if_neg h1] at hE
  have h2 : ¬ (m.length : Int) < n := fun h => by rw [if_pos h] at hE; cases hE
  have hml : m.length ≤ 70368744177664 := by rw [hm']; simp; omega
  have hwl : IntKind.u64.wrap (m.length : Int) = m.length := by rw [IntKind.wrap_u64]; omega
  have HN := Lib.hid hn
  have HM := Lib.hid hm'
  clear hn hm' h0 hE
  have hneg : ¬ most < 0 := fun h => h1 (.inl h)
  have hlong : ¬ most < n := fun h => h1 (.inr h)
  clear h1
  have hw : IntKind.u64.wrap most = most := by rw [IntKind.wrap_u64]; omega
  obtain ⟨k, rfl⟩ := Int.eq_ofNat_of_zero_le hnn
  rw [Int.toNat_natCast]
  have hkm : k ≤ m.length := by omega
  obtain ⟨m1, hm1⟩ : ∃ m1, m1 = m.take k := ⟨_, rfl⟩
  obtain ⟨m2, hm2⟩ : ∃ m2, m2 = m.drop k := ⟨_, rfl⟩
  rw [← hm1, ← hm2]
  have hl1 : m1.length ≤ 70368744177664 := by rw [hm1]; simp; omega
  have hl2 : m2.length ≤ 70368744177664 := by rw [hm2]; simp; omega
  have HM1 := Lib.hid hm1
  have HM2 := Lib.hid hm2
  clear hm1 hm2
  go_enter Tryd.func42, Tryd.ntmps42
  go_wp2_with fail
  refine (refTake_yes _ _ _ _ hr hb hc hl H0.out).mono ?_
  rintro e w1 ⟨A', c', rfl, hown, hbel⟩
  rw [← HN.out, ← HM.out]
  rw [← HM.out] at hown
  have hcp := hown.cap
  obtain ⟨A3, u1, u2, _⟩ := slice_upto A' c' m k .u64 hkm hcp.1
  obtain ⟨A4, v1, v2, _⟩ := slice_from A' c' m k .u64 hkm hcp.1
  have d1 : Rd w1.drew A3 (m.take k) := u2 _ (Rd.of_own hown)
  have d2 : Rd w1.drew A4 (m.drop k) := v2 _ (Rd.of_own hown)
  rw [← HM1.out] at u1 d1
  rw [← HM2.out] at v1 d2
  have C1 := Lib.hid fun W (h : Rd W A3 m1) => copy_any A3 c' m1 W h hl1
  have C2 := Lib.hid fun W (h : Rd W A4 m2) => copy_any A4 (c' - k) m2 W h hl2
  have hsz := hbel.size
  clear u2 v2 hr hb hown hcp
  go_wp2_with fail
  go_region_held3 (fun _ => True) (trivial) (first
    | (go_at_call 17; refine (C1.out _ d1).mono ?_; rintro e w2 ⟨B1, d1, rfl, hown1, hbel1⟩; have d3 := d2.below hbel1)
    | (go_at_call 17; refine (C2.out _ d3).mono ?_; rintro e w3 ⟨B2, d2, rfl, hown2, hbel2⟩))
  go_wp2
  go_ret3
  have hb1 : Below w1.heap.size w1 w2 := (Below.refl _ _).drew.trans hbel1
  have hb2 : Below w1.heap.size w1 w3 := hb1.trans (hbel2.mono hb1.size)
  exact ⟨_, _, _, _, rfl, (hown1.below hbel2).base_le hsz, (hown2.base_le hb1.size).base_le hsz, hbel.trans (hb2.mono hsz)⟩
end Go.Proofs.YtfedofoadfipcaaDoor

/-
  The contracts once more, each for every input in one sentence.
-/
namespace Go.Proofs.YtfedofoadfipcaaDoor
open Go.RowKit
set_option linter.unusedVariables false

def tkE (l : List Int) : Int := if rdS l = 0 then 2 else 0
def tkR (l : List Int) : List Int := if rdS l = 0 then [] else l.drop (rdS l)
theorem rdN_zero {l : List Int} (h : rdS l = 0) : rdN l = 0 := by
  match l with
  | [] => rfl
  | x :: r =>
    simp only [rdS] at h
    simp only [rdN]
    have := vlen_bd x
    split at h
    · rename_i h2; rw [if_pos h2]
    · omega
theorem tkR_bytes {l : List Int} (h : Bytes l) : Bytes (tkR l) := by unfold tkR; split; exact Bytes.nil; exact h.drop _

theorem take_u (A : Option Addr) (c : Nat) (l : List Int) (w : World) (h : Sl w A c l) (hb : Bytes l) (hl : l.length ≤ 70368744177664) :
    Calls Tryd.prog 64 #[.slice A l.length c] w fun e w' =>
      ∃ A' c', e = .returned (.tuple #[.int .u64 (rdN l), .slice A' (tkR l).length c', .int .i64 (tkE l)]) ∧ Sl w' A' c' (tkR l) ∧ Below w.heap.size w w' := by
  unfold tkR tkE
  by_cases h0 : rdS l = 0
  · rw [if_pos h0, if_pos h0, rdN_zero h0]
    refine (take_no A c l w h.rd hb h.le hl h0).mono ?_
    rintro e w' ⟨rfl, rfl⟩
    exact ⟨none, 0, rfl, Sl.none_ _, Below.refl _ _⟩
  · rw [if_neg h0, if_neg h0]
    refine (take_yes A c l w h.rd hb h.le hl h0).mono ?_
    rintro e w' ⟨A', c', rfl, hown, hbel⟩
    exact ⟨A', c', rfl, Sl.of_own hown, hbel⟩
theorem refTake_u (A : Option Addr) (c : Nat) (l : List Int) (w : World) (h : Sl w A c l) (hb : Bytes l) (hl : l.length ≤ 70368744177664) :
    Calls Tryd.prog 41 #[.slice A l.length c] w fun e w' =>
      ∃ A' c', e = .returned (.tuple #[.int .u64 (rdN l), .slice A' (tkR l).length c', .int .i64 (tkE l)]) ∧ Sl w' A' c' (tkR l) ∧ Below w.heap.size w w' := by
  unfold tkR tkE
  by_cases h0 : rdS l = 0
  · rw [if_pos h0, if_pos h0, rdN_zero h0]
    refine (refTake_no A c l w h.rd hb h.le hl h0).mono ?_
    rintro e w' ⟨rfl, hbel⟩
    exact ⟨none, 0, rfl, Sl.none_ _, hbel⟩
  · rw [if_neg h0, if_neg h0]
    refine (refTake_yes A c l w h.rd hb h.le hl h0).mono ?_
    rintro e w' ⟨A', c', rfl, hown, hbel⟩
    exact ⟨A', c', rfl, Sl.of_own hown, hbel⟩
def ttT (l : List Int) (most : Int) : List Int := if vtkE l most = 0 then vtkT l else []
def ttR (l : List Int) (most : Int) : List Int := if vtkE l most = 0 then vtkR l else []
theorem ttT_bytes {l : List Int} (h : Bytes l) (most : Int) : Bytes (ttT l most) := by unfold ttT; split; exact (h.drop _).take _; exact Bytes.nil
theorem ttR_bytes {l : List Int} (h : Bytes l) (most : Int) : Bytes (ttR l most) := by unfold ttR; split; exact (h.drop _).drop _; exact Bytes.nil
theorem refTT_u (A : Option Addr) (c : Nat) (l : List Int) (most : Int) (w : World) (h : Sl w A c l) (hb : Bytes l) (hl : l.length ≤ 70368744177664) (hm : most < 9223372036854775808) :
    Calls Tryd.prog 42 #[.slice A l.length c, .int .i64 most] w fun e w' =>
      ∃ A1 c1 A2 c2, e = .returned (.tuple #[.slice A1 (ttT l most).length c1, .slice A2 (ttR l most).length c2, .int .i64 (vtkE l most)]) ∧
        Sl w' A1 c1 (ttT l most) ∧ Sl w' A2 c2 (ttR l most) ∧ Below w.heap.size w w' := by
  unfold ttT ttR
  by_cases h0 : vtkE l most = 0
  · rw [if_pos h0, if_pos h0, h0]
    refine (refTT_ok A c l most w h.rd hb h.le hl hm h0).mono ?_
    rintro e w' ⟨A1, c1, A2, c2, rfl, ho1, ho2, hbel⟩
    exact ⟨A1, c1, A2, c2, rfl, Sl.of_own ho1, Sl.of_own ho2, hbel⟩
  · rw [if_neg h0, if_neg h0]
    refine (refTT_bad A c l most _ w h.rd hb h.le hl hm rfl h0).mono ?_
    rintro e w' ⟨rfl, hbel⟩
    exact ⟨none, 0, none, 0, rfl, Sl.none_ _, Sl.none_ _, hbel⟩
def vbnd (s : Int) : Int := if s = 1 then 64 else if s = 2 then 16384 else if s = 4 then 1073741824 else 4611686018427387904
/-- The encoding of n that has s bytes, or nothing; the error. -/
def wiE (n s : Int) : Int := if s ≠ 1 ∧ s ≠ 2 ∧ s ≠ 4 ∧ s ≠ 8 then 1 else if n < vbnd s then 0 else 3
def wiB (n s : Int) : List Int := if wiE n s = 0 then wenc n s.toNat else []
def nuE (n : Int) : Int := if n < 4611686018427387904 then 0 else 3
def nuB (n : Int) : List Int := if nuE n = 0 then venc n else []
theorem isSize_of (s : Int) (h : ¬ (s ≠ 1 ∧ s ≠ 2 ∧ s ≠ 4 ∧ s ≠ 8)) : ∃ t, IsSize s s.toNat (vbnd s) t := by
  rcases (show s = 1 ∨ s = 2 ∨ s = 4 ∨ s = 8 by omega) with rfl | rfl | rfl | rfl
  · exact ⟨0, .inl ⟨rfl, rfl, rfl, rfl⟩⟩
  · exact ⟨1, .inr (.inl ⟨rfl, rfl, rfl, rfl⟩)⟩
  · exact ⟨2, .inr (.inr (.inl ⟨rfl, rfl, rfl, rfl⟩))⟩
  · exact ⟨3, .inr (.inr (.inr ⟨rfl, rfl, rfl, rfl⟩))⟩
theorem wiB_bytes (n s : Int) (h0 : 0 ≤ n) : Bytes (wiB n s) := by
  unfold wiB wiE
  by_cases h : s ≠ 1 ∧ s ≠ 2 ∧ s ≠ 4 ∧ s ≠ 8
  · rw [if_pos h, if_neg (by omega)]; exact Bytes.nil
  · rw [if_neg h]
    by_cases hn : n < vbnd s
    · rw [if_pos hn, if_pos rfl]
      obtain ⟨t, ht⟩ := isSize_of s h
      have hs : s = s.toNat := by omega
      rw [hs] at ht
      exact wenc_bytes ht h0 (by rw [← hs]; exact hn)
    · rw [if_neg hn, if_neg (by omega)]; exact Bytes.nil
theorem nuB_bytes (n : Int) (h0 : 0 ≤ n) : Bytes (nuB n) := by
  unfold nuB nuE
  by_cases h : n < 4611686018427387904
  · rw [if_pos h, if_pos rfl]; exact (venc_le n h0 h).2.2
  · rw [if_neg h, if_neg (by omega)]; exact Bytes.nil
theorem wide_u (n s : Int) (w : World) (ht : Tab w) (h0 : 0 ≤ n) :
    Calls Tryd.prog 76 #[.int .u64 n, .int .i64 s] w fun e w' =>
      ∃ A' c', e = .returned (.tuple #[.slice A' (wiB n s).length c', .int .i64 (wiE n s)]) ∧ Own w' w.heap.size A' c' (wiB n s) ∧ Below w.heap.size w w' := by
  unfold wiB wiE
  by_cases h : s ≠ 1 ∧ s ≠ 2 ∧ s ≠ 4 ∧ s ≠ 8
  · rw [if_pos h, if_neg (by omega)]
    refine (wide_arg n s w h.1 h.2.1 h.2.2.1 h.2.2.2).mono ?_
    rintro e w' ⟨rfl, rfl⟩
    exact ⟨none, 0, rfl, Own.nil _ _, Below.refl _ _⟩
  · rw [if_neg h]
    obtain ⟨t, hs⟩ := isSize_of s h
    by_cases hn : n < vbnd s
    · rw [if_pos hn, if_pos rfl]
      exact wide_ok n s _ _ t w ht hs h0 hn
    · rw [if_neg hn, if_neg (by omega)]
      refine (wide_long n s _ _ t w hs (by omega)).mono ?_
      rintro e w' ⟨rfl, rfl⟩
      exact ⟨none, 0, rfl, Own.nil _ _, Below.refl _ _⟩
theorem refWide_u (n s : Int) (w : World) (h0 : 0 ≤ n) :
    Calls Tryd.prog 23 #[.int .u64 n, .int .i64 s] w fun e w' =>
      ∃ A' c', e = .returned (.tuple #[.slice A' (wiB n s).length c', .int .i64 (wiE n s)]) ∧ Own w' w.heap.size A' c' (wiB n s) ∧ Below w.heap.size w w' := by
  unfold wiB wiE
  by_cases h : s ≠ 1 ∧ s ≠ 2 ∧ s ≠ 4 ∧ s ≠ 8
  · rw [if_pos h, if_neg (by omega)]
    refine (refWide_arg n s w h.1 h.2.1 h.2.2.1 h.2.2.2).mono ?_
    rintro e w' ⟨rfl, rfl⟩
    exact ⟨none, 0, rfl, Own.nil _ _, Below.refl _ _⟩
  · rw [if_neg h]
    obtain ⟨t, hs⟩ := isSize_of s h
    by_cases hn : n < vbnd s
    · rw [if_pos hn, if_pos rfl]
      exact refWide_ok n s _ _ t w hs h0 hn
    · rw [if_neg hn, if_neg (by omega)]
      refine (refWide_long n s _ _ t w hs h0 (by omega)).mono ?_
      rintro e w' ⟨rfl, rfl⟩
      exact ⟨none, 0, rfl, Own.nil _ _, Below.refl _ _⟩
theorem num_u (n : Int) (w : World) (ht : Tab w) (h0 : 0 ≤ n) :
    Calls Tryd.prog 63 #[.int .u64 n] w fun e w' =>
      ∃ A' c', e = .returned (.tuple #[.slice A' (nuB n).length c', .int .i64 (nuE n)]) ∧ Own w' w.heap.size A' c' (nuB n) ∧ Below w.heap.size w w' := by
  unfold nuB nuE
  by_cases h : n < 4611686018427387904
  · rw [if_pos h, if_pos rfl]
    exact num_ok n w ht h0 h
  · rw [if_neg h, if_neg (by omega)]
    refine (num_long n w (by omega)).mono ?_
    rintro e w' ⟨rfl, rfl⟩
    exact ⟨none, 0, rfl, Own.nil _ _, Below.refl _ _⟩
theorem refNum_u (n : Int) (w : World) (h0 : 0 ≤ n) :
    Calls Tryd.prog 50 #[.int .u64 n] w fun e w' =>
      ∃ A' c', e = .returned (.tuple #[.slice A' (nuB n).length c', .int .i64 (nuE n)]) ∧ Own w' w.heap.size A' c' (nuB n) ∧ Below w.heap.size w w' := by
  unfold nuB nuE
  by_cases h : n < 4611686018427387904
  · rw [if_pos h, if_pos rfl]
    exact refNum_ok n w h0 h
  · rw [if_neg h, if_neg (by omega)]
    refine (refNum_long n w (by omega)).mono ?_
    rintro e w' ⟨rfl, rfl⟩
    exact ⟨none, 0, rfl, Own.nil _ _, Below.refl _ _⟩
end Go.Proofs.YtfedofoadfipcaaDoor
