/-
  The reader of package scan.
-/
import Derived.Test.YtpaglcojbcndoaaDoorVintC
import Derived.Test.YtpaglcojbcndoaaDoorInts
namespace Go.Proofs.YtpaglcojbcndoaaDoor
open Go.RowKit
set_option linter.unusedVariables false

/-- The reader's block stands at g: the bytes p are left, in blocks below B; its error is e. -/
structure Rdr (w : World) (g B : Nat) (p : List Int) (e : Int) : Prop where
  blk : ∃ (A : Option Addr) (c : Nat), Blk w g 101 #[.slice A p.length c, .int .i64 e] ∧ p.length ≤ c ∧ c ≤ 9223372036854775807 ∧ Reads w B 1 A p.length (U8 p) ∧ (A = none → c = 0)
  bytes : Bytes p
  le : B ≤ g
  small : p.length ≤ 70368744177664
theorem Rdr.lt {w : World} {g B : Nat} {p : List Int} {e : Int} (h : Rdr w g B p e) : g < w.heap.size := by
  obtain ⟨A, c, k, _⟩ := h.blk
  exact k.lt
theorem Rdr.below {w w' : World} {g B : Nat} {p : List Int} {e : Int} (h : Rdr w g B p e) (hb : Below w.heap.size w w') : Rdr w' g B p e := by
  have hl := h.lt
  obtain ⟨A, c, k, h1, h2, h3, h4⟩ := h.blk
  exact ⟨⟨A, c, k.below hb hl, h1, h2, h3.keep (fun q hq => hb.cell (p := q) (by have := h.le; omega)), h4⟩, h.bytes, h.le, h.small⟩
theorem Rdr.drew {w : World} {g B : Nat} {p : List Int} {e : Int} (h : Rdr w g B p e) : Rdr w.drew g B p e := ⟨h.blk, h.bytes, h.le, h.small⟩
theorem only_refl (w : World) (row : Option Nat) : w.grownBy w row := World.grownBy.refl w row
theorem only_below {a w : World} (h : Below a.heap.size a w) (row : Option Nat) : a.grownBy w row := ⟨h.os, h.tape, h.output, h.size, fun i hi _ => h.block i hi⟩
theorem only_then {a b c : World} {row : Option Nat} (h : a.grownBy b row) (k : b.grownBy c row) : a.grownBy c row :=
  ⟨k.os.trans h.os, k.tape.trans h.tape, k.output.trans h.output, Nat.le_trans h.size k.size, fun i hi hne => (k.block i (Nat.lt_of_lt_of_le hi h.size) hne).trans (h.block i hi hne)⟩
theorem only_set {a w : World} {g : Nat} (h : a.grownBy w (some g)) {p : Addr} (hp : p.block = g) (u : Value) : a.grownBy (w.setCell p u) (some g) :=
  ⟨h.os, h.tape, h.output, by simpa [World.setCell] using h.size, fun i hi hne => (Below.heap_setCell w p u i (by rintro rfl; exact hne (by rw [hp]))).trans (h.block i hi hne)⟩
/-- The error is set. -/
theorem Rdr.setE {w : World} {g B : Nat} {p : List Int} {e : Int} (h : Rdr w g B p e) (x : Int) : Rdr (w.setCell ⟨g, 1, none⟩ (.int .i64 x)) g B p x := by
  obtain ⟨A, c, k, h1, h2, h3, h4⟩ := h.blk
  exact ⟨⟨A, c, by simpa using k.set_ 1 (.int .i64 x), h1, h2, h3.setCell (p := ⟨g, 1, none⟩) h.le _, h4⟩, h.bytes, h.le, h.small⟩

theorem Errno_any (g B : Nat) (p : List Int) (e : Int) (w : World) (h : Rdr w g B p e) :
    Calls Tryd.prog 58 #[.pointer (some ⟨g, 0, none⟩)] w fun r w' => r = .returned (.int .i64 e) ∧ w = w' := by
  obtain ⟨A, c, k, h1, h2, h3, h4⟩ := h.blk
  have c1 := k.cell 1
  go_enter Tryd.func58, Tryd.ntmps58
  go_wp2
  go_ret
  exact ⟨rfl, rfl⟩

/-- What Must leaves as the error. -/
def mustE (e : Int) (ok : Bool) : Int := if e = 0 ∧ ok = false then 4 else e
theorem Must_any (g B : Nat) (p : List Int) (e : Int) (ok : Bool) (w : World) (h : Rdr w g B p e) :
    Calls Tryd.prog 47 #[.pointer (some ⟨g, 0, none⟩), .bool ok] w fun r w' => r = .returned (.tuple #[]) ∧ Rdr w' g B p (mustE e ok) ∧ w.grownBy w' (some g) := by
  have H := Lib.hid h
  obtain ⟨A, c, k, h1, h2, h3, h4⟩ := h.blk
  have c1 := k.cell 1
  have f1 := k.frozen 1
  obtain ⟨R, hR⟩ : ∃ R, R = mustE e ok := ⟨_, rfl⟩
  have HR := Lib.hid hR
  rw [← hR]
  clear hR h k h3
  by_cases h0 : e = 0
  · subst h0
    cases ok
    · go_enter Tryd.func47, Tryd.ntmps47
      go_wp2
      exact bodyPost_end (v := .tuple #[]) (results_none (by rfl) _ _ _) (by rfl) ⟨rfl, by rw [HR.out]; exact H.out.setE 4, only_set (only_refl _ _) rfl _⟩
    · go_enter Tryd.func47, Tryd.ntmps47
      go_wp2
      exact bodyPost_end (v := .tuple #[]) (results_none (by rfl) _ _ _) (by rfl) ⟨rfl, by rw [HR.out]; exact H.out, only_refl _ _⟩
  · have hz : (e == 0) = false := by simpa using h0
    have hR2 : R = e := by rw [HR.out, mustE, if_neg (by simp [h0])]
    subst hR2
    go_enter Tryd.func47, Tryd.ntmps47
    go_wp2
    exact bodyPost_end (v := .tuple #[]) (results_none (by rfl) _ _ _) (by rfl) ⟨rfl, H.out, only_refl _ _⟩
end Go.Proofs.YtpaglcojbcndoaaDoor
