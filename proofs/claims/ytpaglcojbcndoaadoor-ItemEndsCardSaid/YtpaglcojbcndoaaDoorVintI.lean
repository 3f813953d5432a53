import Derived.Test.YtpaglcojbcndoaaDoorVintH
namespace Go.Proofs.YtpaglcojbcndoaaDoor
open Go.RowKit
set_option linter.unusedVariables false

set_option maxHeartbeats 800000 in
theorem refTT_bad (A : Option Addr) (c : Nat) (l : List Int) (most E : Int) (w : World) (hr : Rd w A l) (hb : Bytes l) (hc : l.length ≤ c) (hl : l.length ≤ 70368744177664) (hm : most < 9223372036854775808)
    (hE : vtkE l most = E) (hE0 : E ≠ 0) :
    Calls Tryd.prog 41 #[.slice A l.length c, .int .i64 most] w fun e w' => e = .returned (.tuple #[.slice none 0 0, .slice none 0 0, .int .i64 E]) ∧ Below w.heap.size w w' := by
  have hnn := rdN_nonneg l hb
  have hsl := rdS_le l
  unfold vtkE at hE
  by_cases h0 : rdS l = 0
  · rw [if_pos h0] at hE
    subst hE
    have H0 := Lib.hid h0
    clear h0 hE0
    go_enter Tryd.func41, Tryd.ntmps41
    go_wp2_with fail
    refine (refTake_no _ _ _ _ hr hb hc hl H0.out).mono ?_
    rintro e w' ⟨rfl, hbel⟩
    go_wp2
    go_ret3
    exact ⟨rfl, hbel⟩
  · rw [if_neg h0] at hE
    have H0 := Lib.hid h0
    obtain ⟨m, hm'⟩ : ∃ m, m = l.drop (rdS l) := ⟨_, rfl⟩
    obtain ⟨n, hn⟩ : ∃ n, n = rdN l := ⟨_, rfl⟩
    rw [← hn] at hE hnn
    rw [← hm'] at hE
    have hml : m.length ≤ 70368744177664 := by rw [hm']; simp; omega
    have hwl : IntKind.u64.wrap (m.length : Int) = m.length := by rw [IntKind.wrap_u64]; omega
    have HN := Lib.hid hn
    have HM := Lib.hid hm'
    clear hn hm' h0
    by_cases hneg : most < 0
    · rw [if_pos (.inl hneg)] at hE
      subst hE
      clear hE0
      go_enter Tryd.func41, Tryd.ntmps41
      go_wp2_with fail
      refine (refTake_yes _ _ _ _ hr hb hc hl H0.out).mono ?_
      rintro e w' ⟨A', c', rfl, hown, hbel⟩
      rw [← HN.out, ← HM.out]
      go_wp2
      go_ret3
      exact ⟨rfl, hbel⟩
    · have hw : IntKind.u64.wrap most = most := by rw [IntKind.wrap_u64]; omega
      by_cases hlong : most < n
      · rw [if_pos (.inr hlong)] at hE
        subst hE
        clear hE0
        go_enter Tryd.func41, Tryd.ntmps41
        go_wp2_with fail
        refine (refTake_yes _ _ _ _ hr hb hc hl H0.out).mono ?_
        rintro e w' ⟨A', c', rfl, hown, hbel⟩
        rw [← HN.out, ← HM.out]
        go_wp2
        go_ret3
        exact ⟨rfl, hbel⟩
      · rw [if_neg (by omega)] at hE
        by_cases hsh : (m.length : Int) < n
        · rw [if_pos hsh] at hE
          subst hE
          clear hE0
          go_enter Tryd.func41, Tryd.ntmps41
          go_wp2_with fail
          refine (refTake_yes _ _ _ _ hr hb hc hl H0.out).mono ?_
          rintro e w' ⟨A', c', rfl, hown, hbel⟩
          rw [← HN.out, ← HM.out]
          go_wp2
          go_ret3
          exact ⟨rfl, hbel⟩
        · rw [if_neg hsh] at hE
          exact absurd hE.symm hE0

set_option maxHeartbeats 800000 in
theorem refTT_ok (A : Option Addr) (c : Nat) (l : List Int) (most : Int) (w : World) (hr : Rd w A l) (hb : Bytes l) (hc : l.length ≤ c) (hl : l.length ≤ 70368744177664) (hm : most < 9223372036854775808)
    (hE : vtkE l most = 0) :
    Calls Tryd.prog 41 #[.slice A l.length c, .int .i64 most] w fun e w' =>
      ∃ A1 c1 A2 c2, e = .returned (.tuple #[.slice A1 (vtkT l).length c1, .slice A2 (vtkR l).length c2, .int .i64 0]) ∧
        Own w' w.heap.size A1 c1 (vtkT l) ∧ Own w' w.heap.size A2 c2 (vtkR l) ∧ Below w.heap.size w w' := by
  have hnn := rdN_nonneg l hb
  have hsl := rdS_le l
  unfold vtkE at hE
  unfold vtkT vtkR
  have h0 : rdS l ≠ 0 := fun h => by rw [if_pos h] at hE; cases hE
  rw [if_neg h0] at hE
  have H0 := Lib.hid h0
  obtain ⟨m, hm'⟩ : ∃ m, m = l.drop (rdS l) := ⟨_, rfl⟩
  obtain ⟨n, hn⟩ : ∃ n, n = rdN l := ⟨_, rfl⟩
  rw [← hn] at hE hnn ⊢
  rw [← hm'] at hE ⊢
  have h1 : ¬ (most < 0 ∨ most < n) := fun h => by rw [if_pos h] at hE; cases hE
  rw [if_neg h1] at hE
  have h2 : ¬ (m.length : Int) < n := fun h => by rw [if_pos h] at hE; cases hE
  have hml : m.length ≤ 70368744177664 := by rw [hm']; simp; omega
  have hwl : IntKind.u64.wrap (m.length : Int) = m.length := by rw [IntKind.wrap_u64]; omega
  have HN := Lib.hid hn
  have HM := Lib.hid hm'
  clear hn hm' h0 hE
  have hneg : ¬ most < 0 := fun h => h1 (.inl h)
  have hlong : ¬ most < n := fun h => h1 (.inr h)
  clear h1
  have hw : IntKind.u64.wrap most = most := by rw [IntKind.wrap_u64]; omega
  obtain ⟨k, rfl⟩ := Int.eq_ofNat_of_zero_le hnn
  rw [Int.toNat_natCast]
  have hkm : k ≤ m.length := by omega
  obtain ⟨m1, hm1⟩ : ∃ m1, m1 = m.take k := ⟨_, rfl⟩
  obtain ⟨m2, hm2⟩ : ∃ m2, m2 = m.drop k := ⟨_, rfl⟩
  rw [← hm1, ← hm2]
  have hl1 : m1.length ≤ 70368744177664 := by rw [hm1]; simp; omega
  have hl2 : m2.length ≤ 70368744177664 := by rw [hm2]; simp; omega
  have HM1 := Lib.hid hm1
  have HM2 := Lib.hid hm2
  clear hm1 hm2
  go_enter Tryd.func41, Tryd.ntmps41
  go_wp2_with fail
  refine (refTake_yes _ _ _ _ hr hb hc hl H0.out).mono ?_
  rintro e w1 ⟨A', c', rfl, hown, hbel⟩
  rw [← HN.out, ← HM.out]
  rw [← HM.out] at hown
  have hcp := hown.cap
  obtain ⟨A3, u1, u2, _⟩ := slice_upto A' c' m k .u64 hkm hcp.1
  obtain ⟨A4, v1, v2, _⟩ := slice_from A' c' m k .u64 hkm hcp.1
  have d1 : Rd w1.drew A3 (m.take k) := u2 _ (Rd.of_own hown)
  have d2 : Rd w1.drew A4 (m.drop k) := v2 _ (Rd.of_own hown)
  rw [← HM1.out] at u1 d1
  rw [← HM2.out] at v1 d2
  have C1 := Lib.hid fun W (h : Rd W A3 m1) => copy_any A3 c' m1 W h hl1
  have C2 := Lib.hid fun W (h : Rd W A4 m2) => copy_any A4 (c' - k) m2 W h hl2
  have hsz := hbel.size
  clear u2 v2 hr hb hown hcp
  go_wp2_with fail
  go_region_held3 (fun _ => True) (trivial) (first
    | (go_at_call 11; refine (C1.out _ d1).mono ?_; rintro e w2 ⟨B1, d1, rfl, hown1, hbel1⟩; have d3 := d2.below hbel1)
    | (go_at_call 11; refine (C2.out _ d3).mono ?_; rintro e w3 ⟨B2, d2, rfl, hown2, hbel2⟩))
  go_wp2
  go_ret3
  have hb1 : Below w1.heap.size w1 w2 := (Below.refl _ _).drew.trans hbel1
  have hb2 : Below w1.heap.size w1 w3 := hb1.trans (hbel2.mono hb1.size)
  exact ⟨_, _, _, _, rfl, (hown1.below hbel2).base_le hsz, (hown2.base_le hb1.size).base_le hsz, hbel.trans (hb2.mono hsz)⟩
end Go.Proofs.YtpaglcojbcndoaaDoor
