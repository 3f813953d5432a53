import Derived.Test.YtdcjnkakibeigaaDoorVintB
namespace Go.Proofs.YtdcjnkakibeigaaDoor
open Go.RowKit
set_option linter.unusedVariables false

/-- What the encoder reads of the library's table. -/
def Tab (w : World) : Prop := 1 < w.heap.size ∧
  w.cell? ⟨1, 0, none⟩ = some (.int .u8 0) ∧ w.cell? ⟨1, 1, none⟩ = some (.int .u8 1) ∧
  w.cell? ⟨1, 3, none⟩ = some (.int .u8 2) ∧ w.cell? ⟨1, 7, none⟩ = some (.int .u8 3)
theorem Tab.below {w w' : World} (h : Tab w) (hb : Below w.heap.size w w') : Tab w' := by
  obtain ⟨h1, h2, h3, h4, h5⟩ := h
  have e : ∀ o, w'.cell? ⟨1, o, none⟩ = w.cell? ⟨1, o, none⟩ := fun o => hb.cell (p := ⟨_, o, none⟩) h1
  exact ⟨Nat.lt_of_lt_of_le h1 hb.size, by rw [e]; exact h2, by rw [e]; exact h3, by rw [e]; exact h4, by rw [e]; exact h5⟩

set_option maxHeartbeats 400000 in
theorem tz_any (s t : Int) (w : World) (ht : Tab w) (hs : s = 1 ∧ t = 0 ∨ s = 2 ∧ t = 1 ∨ s = 4 ∧ t = 2 ∨ s = 8 ∧ t = 3) :
    Calls Tryd.prog 89 #[.int .u64 s] w fun e w' => e = .returned (.int .i64 t) ∧ w = w' := by
  obtain ⟨_, h1, h2, h3, h4⟩ := ht
  have e1 : IntKind.u64.wrap (bits BinOp.and IntKind.u64 1 (IntKind.u64.wrap (-1)) * 285870213051353865) / 288230376151711744 = 0 := by kernel_rfl
  have e2 : IntKind.u64.wrap (bits BinOp.and IntKind.u64 2 (IntKind.u64.wrap (-2)) * 285870213051353865) / 288230376151711744 = 1 := by kernel_rfl
  have e3 : IntKind.u64.wrap (bits BinOp.and IntKind.u64 4 (IntKind.u64.wrap (-4)) * 285870213051353865) / 288230376151711744 = 3 := by kernel_rfl
  have e4 : IntKind.u64.wrap (bits BinOp.and IntKind.u64 8 (IntKind.u64.wrap (-8)) * 285870213051353865) / 288230376151711744 = 7 := by kernel_rfl
  rcases hs with ⟨rfl, rfl⟩ | ⟨rfl, rfl⟩ | ⟨rfl, rfl⟩ | ⟨rfl, rfl⟩
  all_goals
    go_enter Tryd.func89, Tryd.ntmps89
    go_wp2
    go_ret
    exact ⟨rfl, rfl⟩

set_option maxHeartbeats 400000 in
theorem tzs_any (s t : Int) (w : World) (ht : Tab w) (hs : s = 1 ∧ t = 0 ∨ s = 2 ∧ t = 1 ∨ s = 4 ∧ t = 2 ∨ s = 8 ∧ t = 3) :
    Calls Tryd.prog 87 #[.int .u64 s] w fun e w' => e = .returned (.int .i64 t) ∧ w = w' := by
  have h0 : 0 ≤ s := by omega
  have h8 : s ≤ 8 := by omega
  have H := Lib.hid hs
  clear hs
  go_enter Tryd.func87, Tryd.ntmps87
  go_wp2_with (go_at_call 89; go_must (refine (tz_any s t _ ht H.out).mono ?_); rintro e w' ⟨rfl, rfl⟩)
  go_ret
  exact ⟨rfl, rfl⟩

theorem rdS_le (l : List Int) : rdS l ≤ l.length := by
  match l with
  | [] => simp [rdS]
  | x :: r => simp only [rdS]; split <;> omega

end Go.Proofs.YtdcjnkakibeigaaDoor
