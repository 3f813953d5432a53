import Derived.Test.YtpaglcojbcndoaaDoorVintB
namespace Go.Proofs.YtpaglcojbcndoaaDoor
open Go.RowKit
set_option linter.unusedVariables false

/-- What the encoder reads of the library's table. -/
def Tab (w : World) : Prop := 1 < w.heap.size ∧
  w.cell? ⟨1, 0, none⟩ = some (.int .u8 0) ∧ w.cell? ⟨1, 1, none⟩ = some (.int .u8 1) ∧
  w.cell? ⟨1, 3, none⟩ = some (.int .u8 2) ∧ w.cell? ⟨1, 7, none⟩ = some (.int .u8 3)
theorem Tab.below {w w' : World} (h : Tab w) (hb : Below w.heap.size w w') : Tab w' := by
  obtain ⟨h1, h2, h3, h4, h5⟩ := h
  have e : ∀ o, w'.cell? ⟨1, o, none⟩ = w.cell? ⟨1, o, none⟩ := fun o => hb.cell (p := ⟨_, o, none⟩) h1
  exact ⟨Nat.lt_of_lt_of_le h1 hb.size, by rw [e]; exact h2, by rw [e]; exact h3, by rw [e]; exact h4, by rw [e]; exact h5⟩

set_option maxHeartbeats 400000 in
theorem tz_any (s t : Int) (w : World) (ht : Tab w) (hs : s = 1 ∧ t = 0 ∨ s = 2 ∧ t = 1 ∨ s = 4 ∧ t = 2 ∨ s = 8 ∧ t = 3) :
    Calls Tryd.prog 72 #[.int .u64 s] w fun e w' => e = .returned (.int .i64 t) ∧ w = w' := by
  obtain ⟨_, h1, h2, h3, h4⟩ := ht
  have e1 : IntKind.u64.wrap (bits BinOp.and IntKind.u64 1 (IntKind.u64.wrap (-1)) * 285870213051353865) / 288230376151711744 = 0 := by kernel_rfl
  have e2 : IntKind.u64.wrap (bits BinOp.and IntKind.u64 2 (IntKind.u64.wrap (-2)) * 285870213051353865) / 288230376151711744 = 1 := by kernel_rfl
  have e3 : IntKind.u64.wrap (bits BinOp.and IntKind.u64 4 (IntKind.u64.wrap (-4)) * 285870213051353865) / 288230376151711744 = 3 := by kernel_rfl
  have e4 : IntKind.u64.wrap (bits BinOp.and IntKind.u64 8 (IntKind.u64.wrap (-8)) * 285870213051353865) / 288230376151711744 = 7 := by kernel_rfl
  rcases hs with ⟨rfl, rfl⟩ | ⟨rfl, rfl⟩ | ⟨rfl, rfl⟩ | ⟨rfl, rfl⟩
  all_goals
    go_enter Tryd.func72, Tryd.ntmps72
    go_wp2
    go_ret
    exact ⟨rfl, rfl⟩

set_option maxHeartbeats 400000 in
theorem tzs_any (s t : Int) (w : World) (ht : Tab w) (hs : s = 1 ∧ t = 0 ∨ s = 2 ∧ t = 1 ∨ s = 4 ∧ t = 2 ∨ s = 8 ∧ t = 3) :
    Calls Tryd.prog 69 #[.int .u64 s] w fun e w' => e = .returned (.int .i64 t) ∧ w = w' := by
  have h0 : 0 ≤ s := by omega
  have h8 : s ≤ 8 := by omega
  have H := Lib.hid hs
  clear hs
  go_enter Tryd.func69, Tryd.ntmps69
  go_wp2_with (go_at_call 72; go_must (refine (tz_any s t _ ht H.out).mono ?_); rintro e w' ⟨rfl, rfl⟩)
  go_ret
  exact ⟨rfl, rfl⟩

theorem rdS_le (l : List Int) : rdS l ≤ l.length := by
  match l with
  | [] => simp [rdS]
  | x :: r => simp only [rdS]; split <;> omega

set_option maxHeartbeats 400000 in
theorem take_no (A : Option Addr) (c : Nat) (l : List Int) (w : World) (hr : Rd w A l) (hb : Bytes l) (hc : l.length ≤ c) (hl : l.length ≤ 70368744177664) (h0 : rdS l = 0) :
    Calls Tryd.prog 59 #[.slice A l.length c] w fun e w' => e = .returned (.tuple #[.int .u64 0, .slice none 0 0, .int .i64 2]) ∧ w = w' := by
  have HS := Lib.hid h0
  clear h0
  go_enter Tryd.func59, Tryd.ntmps59
  go_wp2_with fail
  refine (read_any _ _ _ _ hr hb hc hl).mono ?_
  rintro e w' ⟨rfl, rfl⟩
  rw [HS.out]
  go_wp2
  go_ret3
  exact ⟨rfl, rfl⟩

set_option maxHeartbeats 400000 in
theorem take_yes (A : Option Addr) (c : Nat) (l : List Int) (w : World) (hr : Rd w A l) (hb : Bytes l) (hc : l.length ≤ c) (hl : l.length ≤ 70368744177664) (h0 : rdS l ≠ 0) :
    Calls Tryd.prog 59 #[.slice A l.length c] w fun e w' =>
      ∃ A' c', e = .returned (.tuple #[.int .u64 (rdN l), .slice A' (l.drop (rdS l)).length c', .int .i64 0]) ∧ Own w' w.heap.size A' c' (l.drop (rdS l)) ∧ Below w.heap.size w w' := by
  obtain ⟨n, hn⟩ : ∃ n, n = rdN l := ⟨_, rfl⟩
  obtain ⟨s, hs⟩ : ∃ s, s = rdS l := ⟨_, rfl⟩
  have hsl : s ≤ l.length := by rw [hs]; exact rdS_le l
  have hA : ∃ b off, A = some ⟨b, off, none⟩ := by
    obtain ⟨b, off, h, _⟩ := hr.some_ (by rw [← hs] at h0; omega)
    exact ⟨b, off, h⟩
  obtain ⟨b, off, rfl⟩ := hA
  rw [← hn, ← hs]
  rw [← hs] at h0
  have HN := Lib.hid hn
  have HS := Lib.hid hs
  clear hn hs
  have hz : ((s : Int) == 0) = false := by simp; omega
  obtain ⟨A', hsl1, hsl2, hsl3⟩ := slice_from (some ⟨b, off, none⟩) c l s .i64 hsl hc
  obtain ⟨m, hm⟩ : ∃ m, m = l.drop s := ⟨_, rfl⟩
  have hml : m.length ≤ 70368744177664 := by rw [hm]; simp; omega
  rw [← hm] at hsl1 hsl2 ⊢
  have hr2 := hsl2 _ hr
  have hA' : A' ≠ none := fun h => by cases hsl3 h
  have HM := Lib.hid hm
  clear hm hsl2 hsl3
  go_enter Tryd.func59, Tryd.ntmps59
  go_wp2_with fail
  refine (read_any _ _ _ _ hr hb hc hl).mono ?_
  rintro e w' ⟨rfl, rfl⟩
  rw [← HN.out, ← HS.out]
  clear hr hb
  go_wp2_with (go_at_call 32; go_must (refine (clone_any A' (c - s) m _ hr2 hml (fun h => absurd h hA')).mono ?_); rintro e w' ⟨A2, c2, rfl, hown, hbel⟩)
  go_ret3
  exact ⟨A2, c2, rfl, hown, hbel⟩
end Go.Proofs.YtpaglcojbcndoaaDoor
