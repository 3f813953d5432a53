/-
  The reference's Shape; a range over a string, in whatever world.
-/
import Derived.Test.YtfedofoadfipcaaDoorWordV
import Derived.Laws.RangeString
import Derived.LoopTactic
namespace Go.Proofs.YtfedofoadfipcaaDoor
open Go.RowKit
set_option linter.unusedVariables false
set_option linter.unusedSimpArgs false
/-- The string's iterator at g stands at pos. -/
def It (w : World) (g : Nat) (s : ByteArray) (pos : Nat) : Prop := w.heap[g]? = some (.stringIter s pos)
theorem It.lt {w : World} {g : Nat} {s : ByteArray} {pos : Nat} (h : It w g s pos) : g < w.heap.size := by
  rcases Nat.lt_or_ge g w.heap.size with hlt | hge
  · exact hlt
  · unfold It at h; rw [Array.getElem?_eq_none hge] at h; cases h
theorem It.grown {w w' : World} {g : Nat} {s : ByteArray} {pos : Nat} {row : Option Nat} (h : It w g s pos) (hg : w.grownBy w' row) (hne : some g ≠ row) : It w' g s pos := (hg.block g h.lt hne).trans h
theorem It.below {w w' : World} {g : Nat} {s : ByteArray} {pos B : Nat} (h : It w g s pos) (hb : Below B w w') (hg : g < B) : It w' g s pos := (hb.block g hg).trans h
theorem It.ne {w : World} {g k : Nat} {s : ByteArray} {pos : Nat} {t : TypeId} {cs : Array Value} (h : It w g s pos) (hb : Blk w k t cs) : g ≠ k := by
  rintro rfl
  unfold It at h
  unfold Blk at hb
  rw [h] at hb
  cases hb
def itSet (w : World) (g : Nat) (s : ByteArray) (pos : Nat) : World := { w with heap := w.heap.setIfInBounds g (.stringIter s pos) }
theorem itSet_it {w : World} {g : Nat} {s : ByteArray} {pos : Nat} (h : It w g s pos) (p : Nat) : It (itSet w g s p) g s p := by
  have := h.lt
  unfold It itSet
  simp [this]
theorem itSet_grown (w : World) (g : Nat) (s : ByteArray) (p : Nat) : w.grownBy (itSet w g s p) (some g) :=
  ⟨rfl, rfl, rfl, by simp [itSet], fun i hi hne => by
    have : g ≠ i := fun e => hne (by rw [e])
    simp [itSet, this]⟩
theorem It.new (w : World) (s : ByteArray) : It (w.iter s 0) w.heap.size s 0 := World.iter_heap w s 0
theorem iter_below (w : World) (s : ByteArray) (p : Nat) : Below w.heap.size w (w.iter s p) := (Below.refl _ _).alloc (Nat.le_refl _) _
theorem run_next_it {P : Program} (w : World) (g : Nat) (s : ByteArray) (pos : Nat) (ty : TypeId) (hi : It w g s pos) (h : pos < s.size) (ha : (s[pos]'h).toNat < 128) :
    (Instr.next (.pointer (some ⟨g, 0, none⟩)) true ty).run P w = .ok (.tuple #[.bool true, .int .i64 pos, .int .i32 (s[pos]'h).toNat]) (itSet w g s (pos + 1)) := by
  unfold It at hi
  simp only [Instr.next, getObj, setObj, Sem.run_bind, Sem.run, hi, Result.andThen, h, if_true, decode_ascii s pos h ha]
  simp [goInt, Sem.run, hi, itSet]
theorem run_next_it_end {P : Program} (w : World) (g : Nat) (s : ByteArray) (pos : Nat) (ty : TypeId) (hi : It w g s pos) (h : ¬ pos < s.size) :
    (Instr.next (.pointer (some ⟨g, 0, none⟩)) true ty).run P w = .ok (.tuple #[.bool false]) w := by
  unfold It at hi
  simp [Instr.next, getObj, Sem.run, hi, h]
/-- A kind's fields, as the reference spells them. -/
def shapeW (k : Int) : ByteArray :=
  if k = 3 then ⟨#[105, 97, 116, 112, 111, 115, 103]⟩ else if k = 4 then ⟨#[105, 98, 115]⟩ else if k = 5 ∨ k = 8 ∨ k = 11 ∨ k = 25 then ⟨#[105, 99, 114]⟩ else if k = 6 then ⟨#[105, 116]⟩
  else if k = 7 ∨ k = 10 ∨ k = 23 ∨ k = 24 then ⟨#[105]⟩ else if k = 9 then ⟨#[116]⟩ else if k = 16 then ⟨#[]⟩ else if k = 21 then ⟨#[110]⟩ else if k = 22 then ⟨#[105, 116, 112, 115, 101]⟩
  else if k = 32 then ⟨#[108, 110]⟩ else if k = 33 then ⟨#[118, 110]⟩ else ⟨#[45]⟩
set_option maxHeartbeats 1600000 in
theorem refShape_any (k : Int) (w : World) : Calls Tryd.prog 28 #[.int .u64 k] w fun r w' => r = .returned (.string (shapeW k)) ∧ w = w' := by
  rcases kindW_ways k with h | h
  · rcases h with rfl | rfl | rfl | rfl | rfl | rfl | rfl | rfl | rfl | rfl | rfl | rfl | rfl | rfl | rfl | rfl | rfl
    all_goals (
      go_enter Tryd.func28, Tryd.ntmps28
      go_wp2_with fail
      go_ret
      exact ⟨rfl, rfl⟩)
  · obtain ⟨kn, fo, q3, q4, q5, q6, q7, q8, q9, q10, q11, q16, q21, q22, q23, q24, q25, q32, q33⟩ := h
    have e : shapeW k = ⟨#[45]⟩ := by
      simp only [beq_eq_false_iff_ne] at q3 q4 q5 q6 q7 q8 q9 q10 q11 q16 q21 q22 q23 q24 q25 q32 q33
      unfold shapeW
      simp [*]
    rw [e]
    clear kn fo e
    go_enter Tryd.func28, Tryd.ntmps28
    go_wp2_with fail
    go_ret
    exact ⟨rfl, rfl⟩
end Go.Proofs.YtfedofoadfipcaaDoor
