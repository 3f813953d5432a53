/-
  LossThree.
-/
import Derived.Test.YtefhbiocddgijaaLossI
import Derived.Test.YtefhbiocddgijaaMapS
namespace Go.Proofs.Ytefhbiocddgijaa
open Go.RowKit
set_option linter.unusedVariables false
set_option linter.unusedSimpArgs false
theorem OwnV.blk {w : World} {base : Nat} {e : TypeId} {size n : Nat} {A : Option Addr} {c : Nat} {xs : List Value} (h : OwnV w base e size A c n xs) {k : Nat} (hk : (Value.slice A n c).ownBlock = some k) : ∃ cs, Blk w k e cs := by
  rcases h.2 with ⟨h2, _⟩ | ⟨g, cap, cur, hv, _, hh, _⟩
  · rw [h2] at hk; cases hk
  · injection hv with hA; subst hA
    simp [Value.ownBlock] at hk
    subst hk
    exact ⟨cur, hh⟩
theorem Led.blkS {w : World} {base g : Nat} {A : Option Addr} {c : Nat} {l : LG} (h : Led w base g A c l) {b : Nat} (hb : LedS g A b) : ∃ t cs, Blk w b t cs := by
  rcases hb with rfl | hb
  · exact ⟨_, _, h.blk⟩
  · obtain ⟨cs, h1⟩ := OwnV.blk h.own (k := b) (by rw [← hb]; exact ownBlock_len _ _ _ _ _)
    exact ⟨_, cs, h1⟩
theorem Led.geS {w : World} {base g : Nat} {A : Option Addr} {c : Nat} {l : LG} (h : Led w base g A c l) {b : Nat} (hb : LedS g A b) : base ≤ b := by
  rcases hb with rfl | hb
  · exact h.le
  · exact OwnV.row_ge' h.own (k := b) (by rw [← hb]; exact ownBlock_len _ _ _ _ _)
/-- A call on a ledger leaves what lies below its base. -/
theorem Led.belowS {w w' : World} {base g : Nat} {A : Option Addr} {c : Nat} {l : LG} (h : Led w base g A c l) (hf : Frm w w' (LedS g A)) (hb : base ≤ w.heap.size) : Below base w w' := hf.below hb (fun b hlt hs => by have := h.geS hs; omega)
/-- One range, as the law lays it. -/
theorem one_range (w : World) (x y : Int) : RdG (w.alloc (.cells #[.int .u64 x, .int .u64 y] 61)) (some ⟨w.heap.size, 0, none⟩) [(x, y)] :=
  ⟨rfl, fun _ => ⟨_, rfl, by simp, two_new w _ _ _⟩⟩
end Go.Proofs.Ytefhbiocddgijaa
