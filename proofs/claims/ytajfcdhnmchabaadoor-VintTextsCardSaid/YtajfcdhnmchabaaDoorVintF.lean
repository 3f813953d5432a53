import Derived.Test.YtajfcdhnmchabaaDoorVintE
namespace Go.Proofs.YtajfcdhnmchabaaDoor
open Go.RowKit
set_option linter.unusedVariables false

/-- A text at the beginning of l, at most 'most' bytes long: the error (0: none), the text, what stands behind. -/
def vtkE (l : List Int) (most : Int) : Int := if rdS l = 0 then 2 else if most < 0 ∨ most < rdN l then 3 else if ((l.drop (rdS l)).length : Int) < rdN l then 2 else 0
def vtkT (l : List Int) : List Int := (l.drop (rdS l)).take (rdN l).toNat
def vtkR (l : List Int) : List Int := (l.drop (rdS l)).drop (rdN l).toNat

set_option maxHeartbeats 800000 in
theorem tt_bad (A : Option Addr) (c : Nat) (l : List Int) (most E : Int) (w : World) (hr : Rd w A l) (hb : Bytes l) (hc : l.length ≤ c) (hl : l.length ≤ 70368744177664) (hm : most < 9223372036854775808)
    (hE : vtkE l most = E) (hE0 : E ≠ 0) :
    Calls Tryd.prog 21 #[.slice A l.length c, .int .i64 most] w fun e w' => e = .returned (.tuple #[.slice none 0 0, .slice none 0 0, .int .i64 E]) ∧ w = w' := by
  have hnn := rdN_nonneg l hb
  unfold vtkE at hE
  have hsl := rdS_le l
  obtain ⟨n, hn⟩ : ∃ n, n = rdN l := ⟨_, rfl⟩
  obtain ⟨s, hs⟩ : ∃ s, s = rdS l := ⟨_, rfl⟩
  rw [← hn] at hE hnn
  rw [← hs] at hE hsl
  have HN := Lib.hid hn
  have HS := Lib.hid hs
  clear hn hs
  by_cases h0 : s = 0
  · rw [if_pos h0] at hE
    subst hE h0
    go_enter Tryd.func21, Tryd.ntmps21
    go_wp2_with fail
    refine (read_any _ _ _ _ hr hb hc hl).mono ?_
    rintro e w' ⟨rfl, rfl⟩
    rw [← HN.out, ← HS.out]
    go_wp2
    go_ret3
    exact ⟨rfl, rfl⟩
  · rw [if_neg h0] at hE
    have hs0 : ((s : Int) == 0) = false := by simp; omega
    by_cases hneg : most < 0
    · rw [if_pos (.inl hneg)] at hE
      subst hE
      go_enter Tryd.func21, Tryd.ntmps21
      go_wp2_with fail
      refine (read_any _ _ _ _ hr hb hc hl).mono ?_
      rintro e w' ⟨rfl, rfl⟩
      rw [← HN.out, ← HS.out]
      go_wp2
      go_ret3
      exact ⟨rfl, rfl⟩
    · have hw : IntKind.u64.wrap most = most := by rw [IntKind.wrap_u64]; omega
      by_cases hlong : most < n
      · rw [if_pos (.inr hlong)] at hE
        subst hE
        go_enter Tryd.func21, Tryd.ntmps21
        go_wp2_with fail
        refine (read_any _ _ _ _ hr hb hc hl).mono ?_
        rintro e w' ⟨rfl, rfl⟩
        rw [← HN.out, ← HS.out]
        go_wp2
        go_ret3
        exact ⟨rfl, rfl⟩
      · rw [if_neg (by omega)] at hE
        by_cases hsh : ((l.drop s).length : Int) < n
        · rw [if_pos hsh] at hE
          subst hE
          obtain ⟨A', q1, q2, q3⟩ := slice_from A c l s .i64 hsl hc
          obtain ⟨m, hm'⟩ : ∃ m, m = l.drop s := ⟨_, rfl⟩
          rw [← hm'] at hsh q1
          have hml : m.length ≤ 70368744177664 := by rw [hm']; simp; omega
          have hwl : IntKind.u64.wrap (m.length : Int) = m.length := by rw [IntKind.wrap_u64]; omega
          clear hm' q2 q3
          go_enter Tryd.func21, Tryd.ntmps21
          go_wp2_with fail
          refine (read_any _ _ _ _ hr hb hc hl).mono ?_
          rintro e w' ⟨rfl, rfl⟩
          rw [← HN.out, ← HS.out]
          go_wp2
          go_ret3
          exact ⟨rfl, rfl⟩
        · rw [if_neg hsh] at hE
          exact absurd hE.symm hE0

set_option maxHeartbeats 800000 in
theorem tt_ok (A : Option Addr) (c : Nat) (l : List Int) (most : Int) (w : World) (hr : Rd w A l) (hb : Bytes l) (hc : l.length ≤ c) (hl : l.length ≤ 70368744177664) (hm : most < 9223372036854775808)
    (hE : vtkE l most = 0) :
    Calls Tryd.prog 21 #[.slice A l.length c, .int .i64 most] w fun e w' =>
      ∃ A1 c1 A2 c2, e = .returned (.tuple #[.slice A1 (vtkT l).length c1, .slice A2 (vtkR l).length c2, .int .i64 0]) ∧
        Own w' w.heap.size A1 c1 (vtkT l) ∧ Own w' w.heap.size A2 c2 (vtkR l) ∧ Below w.heap.size w w' := by
  have hnn := rdN_nonneg l hb
  have hsl := rdS_le l
  unfold vtkE at hE
  unfold vtkT vtkR
  obtain ⟨n, hn⟩ : ∃ n, n = rdN l := ⟨_, rfl⟩
  obtain ⟨s, hs⟩ : ∃ s, s = rdS l := ⟨_, rfl⟩
  rw [← hn] at hE hnn
  rw [← hs] at hE hsl
  rw [← hn, ← hs]
  have HN := Lib.hid hn
  have HS := Lib.hid hs
  clear hn hs
  have h0 : s ≠ 0 := fun h => by rw [if_pos h] at hE; cases hE
  rw [if_neg h0] at hE
  have h1 : ¬ (most < 0 ∨ most < n) := fun h => by rw [if_pos h] at hE; cases hE
  rw [if_neg h1] at hE
  have h2 : ¬ ((l.drop s).length : Int) < n := fun h => by rw [if_pos h] at hE; cases hE
  clear hE
  have hneg : ¬ most < 0 := fun h => h1 (.inl h)
  have hlong : ¬ most < n := fun h => h1 (.inr h)
  clear h1
  have hs0 : ((s : Int) == 0) = false := by simp; omega
  have hw : IntKind.u64.wrap most = most := by rw [IntKind.wrap_u64]; omega
  obtain ⟨b, off, rfl, _⟩ := hr.some_ (by omega)
  obtain ⟨A', q1, q2, q3⟩ := slice_from (some ⟨b, off, none⟩) c l s .i64 hsl hc
  have q2' := q2 _ hr
  obtain ⟨m, hm'⟩ : ∃ m, m = l.drop s := ⟨_, rfl⟩
  rw [← hm'] at h2 q1 q2' ⊢
  have hmc : m.length ≤ c - s := by rw [hm']; simp; omega
  have hml : m.length ≤ 70368744177664 := by rw [hm']; simp; omega
  have hwl : IntKind.u64.wrap (m.length : Int) = m.length := by rw [IntKind.wrap_u64]; omega
  have hA' : A' ≠ none := fun h => by cases q3 h
  clear hm' q2 q3
  obtain ⟨k, rfl⟩ := Int.eq_ofNat_of_zero_le hnn
  rw [Int.toNat_natCast]
  have hkm : k ≤ m.length := by omega
  obtain ⟨A3, u1, u2, u3⟩ := slice_upto A' (c - s) m k .u64 hkm hmc
  obtain ⟨A4, v1, v2, v3⟩ := slice_from A' (c - s) m k .u64 hkm hmc
  have u2' := u2 _ q2'
  have v2' := v2 _ q2'
  have hA3 : A3 ≠ none := fun h => hA' (u3 h)
  have hA4 : A4 ≠ none := fun h => hA' (v3 h)
  clear u2 v2 u3 v3 hA'
  obtain ⟨m1, hm1⟩ : ∃ m1, m1 = m.take k := ⟨_, rfl⟩
  obtain ⟨m2, hm2⟩ : ∃ m2, m2 = m.drop k := ⟨_, rfl⟩
  rw [← hm1] at u1 u2' ⊢
  rw [← hm2] at v1 v2' ⊢
  have hl1 : m1.length ≤ 70368744177664 := by rw [hm1]; simp; omega
  have hl2 : m2.length ≤ 70368744177664 := by rw [hm2]; simp; omega
  clear hm1 hm2
  go_enter Tryd.func21, Tryd.ntmps21
  go_wp2_with fail
  refine (read_any _ _ _ _ hr hb hc hl).mono ?_
  rintro e w0 ⟨rfl, rfl⟩
  rw [← HN.out, ← HS.out]
  clear hr hb q2'
  go_wp2_with fail
  have C1 := fun W (h : Rd W A3 m1) => clone_any A3 (c - s) m1 W h hl1 (fun h => absurd h hA3)
  have C2 := fun W (h : Rd W A4 m2) => clone_any A4 (c - s - k) m2 W h hl2 (fun h => absurd h hA4)
  have C1 := Lib.hid C1
  have C2 := Lib.hid C2
  have d1 : Rd w.drew A3 m1 := u2'
  have d2 : Rd w.drew A4 m2 := v2'
  go_region_held3 (fun _ => True) (trivial) (first
    | (go_at_call 27; refine (C1.out _ d1).mono ?_; rintro e w1 ⟨B1, d1, rfl, hown1, hbel1⟩; have d3 := d2.below hbel1)
    | (go_at_call 27; refine (C2.out _ d3).mono ?_; rintro e w2 ⟨B2, d2, rfl, hown2, hbel2⟩))
  go_wp2
  go_ret3
  have hb1 : Below w.heap.size w w1 := (Below.refl _ _).drew.trans hbel1
  have hb2 : Below w.heap.size w w2 := hb1.trans (hbel2.mono hb1.size)
  exact ⟨_, _, _, _, rfl, hown1.below hbel2, hown2.base_le hb1.size, hb2⟩
end Go.Proofs.YtajfcdhnmchabaaDoor
