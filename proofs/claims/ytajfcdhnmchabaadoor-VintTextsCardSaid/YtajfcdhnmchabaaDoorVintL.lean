import Derived.Test.YtajfcdhnmchabaaDoorVintI
namespace Go.Proofs.YtajfcdhnmchabaaDoor
open Go.RowKit
set_option linter.unusedVariables false

/-- A slice literal of bytes is a row of the call's own. -/
theorem own_lit (w : World) (l : List Int) {base : Nat} (hb : base ≤ w.heap.size) (hm : l.length ≤ 1000) : Own (w.alloc (.cells (U8 l).toArray 5)) base (some ⟨w.heap.size, 0, none⟩) l.length l :=
  Own.new (Blk.new w _ _) hb (by unfold maxLen; omega)

theorem same_yes (A B : Option Addr) (c d : Nat) (a b : List Int) (w : World) (ha : Rd w A a) (hb : Rd w B b) (h1 : Bytes a) (h : a = b) :
    Calls Tryd.prog 14 #[.slice A a.length c, .slice B b.length d] w fun e w' => e = .returned (.bool true) ∧ w = w' := by
  refine (same_any A B c d a b w ha hb h1 (h ▸ h1)).mono ?_
  rintro e w' ⟨rfl, rfl⟩
  exact ⟨by simp [sameB, h], rfl⟩

set_option maxHeartbeats 1600000 in
theorem awake_any (w : World) (ht : Tab w) : Calls Tryd.prog 8 #[] w fun e w' => e = .returned (.bool true) ∧ Below w.heap.size w w' := by
  have e1 : venc 15293 = [123, 189] := by decide
  have e2 : wenc 37 2 = [64, 37] := by decide
  have e3 : rdN [64, 37] = 37 := by decide
  have e4 : rdS [64, 37] = 2 := by decide
  have e5 : vleast [64, 37] = false := by decide
  have b1 : Bytes [123, 189] := by unfold Bytes; decide
  have b2 : Bytes [64, 37] := by unfold Bytes; decide
  have E1 := Lib.hid e1
  have E2 := Lib.hid e2
  have E3 := Lib.hid e3
  have E4 := Lib.hid e4
  have E5 := Lib.hid e5
  clear e1 e2 e3 e4 e5
  go_enter Tryd.func8, Tryd.ntmps8
  go_wp2_with fail
  refine (num_ok 15293 _ ht (by decide) (by decide)).mono ?_
  rintro e w1 ⟨A1, c1, rfl, hown1, hb1⟩
  rw [E1.out] at hown1 ⊢
  have ht1 := ht.below hb1
  go_wp2_with fail
  refine (wide_ok 37 2 2 16384 1 _ ht1 (by unfold IsSize; omega) (by decide) (by decide)).mono ?_
  rintro e w2 ⟨A2, c2, rfl, hown2, hb2⟩
  rw [E2.out] at hown2 ⊢
  have ht2 := ht1.below hb2
  go_wp2_with fail
  have hl1 := own_lit w2 [64, 37] (Nat.le_refl _) (by decide)
  refine (take_yes (some ⟨w2.heap.size, 0, none⟩) 2 [64, 37] _ (Rd.of_own hl1) b2 (by decide) (by decide) (by rw [E4.out]; decide)).mono ?_
  rintro e w3 ⟨A3, c3, rfl, hown3, hb3'⟩
  rw [E3.out]
  have hb3 : Below w2.heap.size w2 w3 := ((Below.refl _ _).alloc (Nat.le_refl _) _).trans (hb3'.mono (by simp))
  clear hl1 hown3 hb3'
  have r1 := ((Rd.of_own hown1).below hb2).below hb3
  have r2 := (Rd.of_own hown2).below hb3
  clear hown1 hown2
  go_wp2_with fail
  have r3 := Rd.of_own (own_lit w3 [123, 189] (Nat.le_refl _) (by decide))
  refine (same_yes A1 (some ⟨w3.heap.size, 0, none⟩) c1 2 [123, 189] [123, 189] _ (r1.alloc _) r3 b1 rfl).mono ?_
  rintro e w4 ⟨rfl, h4⟩
  have hb4 : Below w3.heap.size w3 w4 := by rw [← h4]; exact (Below.refl _ _).alloc (Nat.le_refl _) _
  have r4 := r2.below hb4
  clear h4 r1 r2 r3
  go_wp2_with fail
  have r5 := Rd.of_own (own_lit w4 [64, 37] (Nat.le_refl _) (by decide))
  refine (same_yes A2 (some ⟨w4.heap.size, 0, none⟩) c2 2 [64, 37] [64, 37] _ (r4.alloc _) r5 b2 rfl).mono ?_
  rintro e w5 ⟨rfl, h5⟩
  have hb5 : Below w4.heap.size w4 w5 := by rw [← h5]; exact (Below.refl _ _).alloc (Nat.le_refl _) _
  clear h5 r4 r5
  go_wp2_with fail
  have r6 := Rd.of_own (own_lit w5 [64, 37] (Nat.le_refl _) (by decide))
  refine (least_any (some ⟨w5.heap.size, 0, none⟩) 2 [64, 37] _ r6 b2 (by decide) (by decide)).mono ?_
  rintro e w6 ⟨rfl, h6⟩
  rw [E5.out]
  have hb6 : Below w5.heap.size w5 w6 := by rw [← h6]; exact (Below.refl _ _).alloc (Nat.le_refl _) _
  clear h6 r6
  go_wp2
  go_ret
  have k2 := hb1.trans (hb2.mono hb1.size)
  have k3 := k2.trans (hb3.mono k2.size)
  have k4 := k3.trans (hb4.mono k3.size)
  have k5 := k4.trans (hb5.mono k4.size)
  exact ⟨rfl, k5.trans (hb6.mono k5.size)⟩

theorem u64_nonneg {n : Int} (h : (Lit.int .u64 n).wf = true) : 0 ≤ n := by
  simp [Lit.wf, IntKind.min, IntKind.max, IntKind.signed, IntKind.bits] at h
  omega
theorem vsize_mono {a b : Int} (h : a ≤ b) (hb : vsize b ≠ 0) : 0 < vsize a ∧ vsize a ≤ vsize b := by
  unfold vsize at *
  repeat' split at hb
  all_goals (repeat' split)
  all_goals omega

set_option maxHeartbeats 800000 in
theorem grows_walk (a b : Int) (w : World) (ht : Tab w) (wa : (Lit.int .u64 a).wf = true) (wb : (Lit.int .u64 b).wf = true) :
    Calls Tryd.prog 6 #[.int .u64 a, .int .u64 b] w fun e w' => e = .returned (.bool true) ∧ Below w.heap.size w w' := by
  have ha := u64_nonneg wa
  have hb := u64_nonneg wb
  clear wa wb
  rcases (show a ≤ b ∨ b < a by omega) with h | h
  · have hm := @vsize_mono a b h
    obtain ⟨x, hx⟩ : ∃ x, x = vsize a := ⟨_, rfl⟩
    obtain ⟨y, hy⟩ : ∃ y, y = vsize b := ⟨_, rfl⟩
    rw [← hx, ← hy] at hm
    have HX := Lib.hid hx
    have HY := Lib.hid hy
    clear hx hy
    rcases Int.lt_or_eq_of_le h with hlt | rfl
    all_goals
      by_cases hy0 : y = 0
      · have hz : (y == 0) = true := by simp [hy0]
        clear hy0 hm
        go_enter Tryd.func6, Tryd.ntmps6
        go_wp2_with fail
        refine (awake_any _ ht).mono ?_
        rintro e w1 ⟨rfl, hb1⟩
        go_wp2_with fail
        refine (size_any _ _ hb).mono ?_
        rintro e w2 ⟨rfl, rfl⟩
        rw [← HY.out]
        go_wp2
        go_ret
        exact ⟨rfl, hb1⟩
      · obtain ⟨hx0, hxy⟩ := hm hy0
        have hz : (y == 0) = false := beq_eq_false_iff_ne.2 hy0
        clear hy0 hm
        go_enter Tryd.func6, Tryd.ntmps6
        go_wp2_with fail
        refine (awake_any _ ht).mono ?_
        rintro e w1 ⟨rfl, hb1⟩
        go_wp2_with fail
        refine (size_any _ _ hb).mono ?_
        rintro e w2 ⟨rfl, rfl⟩
        rw [← HY.out]
        go_wp2_with fail
        refine (size_any _ _ ha).mono ?_
        rintro e w2 ⟨rfl, rfl⟩
        rw [← HX.out]
        go_wp2_with fail
        refine (size_any _ _ hb).mono ?_
        rintro e w2 ⟨rfl, rfl⟩
        rw [← HY.out]
        go_wp2_with fail
        refine (size_any _ _ ha).mono ?_
        rintro e w2 ⟨rfl, rfl⟩
        rw [← HX.out]
        go_wp2
        go_ret
        exact ⟨rfl, hb1⟩
  · have hm := @vsize_mono b a (by omega)
    obtain ⟨x, hx⟩ : ∃ x, x = vsize b := ⟨_, rfl⟩
    obtain ⟨y, hy⟩ : ∃ y, y = vsize a := ⟨_, rfl⟩
    rw [← hx, ← hy] at hm
    have HX := Lib.hid hx
    have HY := Lib.hid hy
    clear hx hy
    by_cases hy0 : y = 0
    · have hz : (y == 0) = true := by simp [hy0]
      clear hy0 hm
      go_enter Tryd.func6, Tryd.ntmps6
      go_wp2_with fail
      refine (awake_any _ ht).mono ?_
      rintro e w1 ⟨rfl, hb1⟩
      go_wp2_with fail
      refine (size_any _ _ ha).mono ?_
      rintro e w2 ⟨rfl, rfl⟩
      rw [← HY.out]
      go_wp2
      go_ret
      exact ⟨rfl, hb1⟩
    · obtain ⟨hx0, hxy⟩ := hm hy0
      have hz : (y == 0) = false := beq_eq_false_iff_ne.2 hy0
      clear hy0 hm
      go_enter Tryd.func6, Tryd.ntmps6
      go_wp2_with fail
      refine (awake_any _ ht).mono ?_
      rintro e w1 ⟨rfl, hb1⟩
      go_wp2_with fail
      refine (size_any _ _ ha).mono ?_
      rintro e w2 ⟨rfl, rfl⟩
      rw [← HY.out]
      go_wp2_with fail
      refine (size_any _ _ hb).mono ?_
      rintro e w2 ⟨rfl, rfl⟩
      rw [← HX.out]
      go_wp2_with fail
      refine (size_any _ _ ha).mono ?_
      rintro e w2 ⟨rfl, rfl⟩
      rw [← HY.out]
      go_wp2_with fail
      refine (size_any _ _ hb).mono ?_
      rintro e w2 ⟨rfl, rfl⟩
      rw [← HX.out]
      go_wp2
      go_ret
      exact ⟨rfl, hb1⟩
end Go.Proofs.YtajfcdhnmchabaaDoor
