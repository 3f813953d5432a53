import Derived.Test.YtomapklkbfjafaaVintB
namespace Go.Proofs.Ytomapklkbfjafaa
open Go.RowKit
set_option linter.unusedVariables false


theorem rdS_le (l : List Int) : rdS l ≤ l.length := by
  match l with
  | [] => simp [rdS]
  | x :: r => simp only [rdS]; split <;> omega

set_option maxHeartbeats 400000 in
theorem take_no (A : Option Addr) (c : Nat) (l : List Int) (w : World) (hr : Rd w A l) (hb : Bytes l) (hc : l.length ≤ c) (hl : l.length ≤ 70368744177664) (h0 : rdS l = 0) :
    Calls Try.prog 42 #[.slice A l.length c] w fun e w' => e = .returned (.tuple #[.int .u64 0, .slice none 0 0, .int .i64 2]) ∧ w = w' := by
  have HS := Lib.hid h0
  clear h0
  go_enter Try.func42, Try.ntmps42
  go_wp2_with fail
  refine (read_any _ _ _ _ hr hb hc hl).mono ?_
  rintro e w' ⟨rfl, rfl⟩
  rw [HS.out]
  go_wp2
  go_ret3
  exact ⟨rfl, rfl⟩

set_option maxHeartbeats 400000 in
theorem take_yes (A : Option Addr) (c : Nat) (l : List Int) (w : World) (hr : Rd w A l) (hb : Bytes l) (hc : l.length ≤ c) (hl : l.length ≤ 70368744177664) (h0 : rdS l ≠ 0) :
    Calls Try.prog 42 #[.slice A l.length c] w fun e w' =>
      ∃ A' c', e = .returned (.tuple #[.int .u64 (rdN l), .slice A' (l.drop (rdS l)).length c', .int .i64 0]) ∧ Own w' w.heap.size A' c' (l.drop (rdS l)) ∧ Below w.heap.size w w' := by
  obtain ⟨n, hn⟩ : ∃ n, n = rdN l := ⟨_, rfl⟩
  obtain ⟨s, hs⟩ : ∃ s, s = rdS l := ⟨_, rfl⟩
  have hsl : s ≤ l.length := by rw [hs]; exact rdS_le l
  have hA : ∃ b off, A = some ⟨b, off, none⟩ := by
    obtain ⟨b, off, h, _⟩ := hr.some_ (by rw [← hs] at h0; omega)
    exact ⟨b, off, h⟩
  obtain ⟨b, off, rfl⟩ := hA
  rw [← hn, ← hs]
  rw [← hs] at h0
  have HN := Lib.hid hn
  have HS := Lib.hid hs
  clear hn hs
  have hz : ((s : Int) == 0) = false := by simp; omega
  obtain ⟨A', hsl1, hsl2, hsl3⟩ := slice_from (some ⟨b, off, none⟩) c l s .i64 hsl hc
  obtain ⟨m, hm⟩ : ∃ m, m = l.drop s := ⟨_, rfl⟩
  have hml : m.length ≤ 70368744177664 := by rw [hm]; simp; omega
  rw [← hm] at hsl1 hsl2 ⊢
  have hr2 := hsl2 _ hr
  have hA' : A' ≠ none := fun h => by cases hsl3 h
  have HM := Lib.hid hm
  clear hm hsl2 hsl3
  go_enter Try.func42, Try.ntmps42
  go_wp2_with fail
  refine (read_any _ _ _ _ hr hb hc hl).mono ?_
  rintro e w' ⟨rfl, rfl⟩
  rw [← HN.out, ← HS.out]
  clear hr hb
  go_wp2_with (go_at_call 41; go_must (refine (clone_any A' (c - s) m _ hr2 hml (fun h => absurd h hA')).mono ?_); rintro e w' ⟨A2, c2, rfl, hown, hbel⟩)
  go_ret3
  exact ⟨A2, c2, rfl, hown, hbel⟩
end Go.Proofs.Ytomapklkbfjafaa
