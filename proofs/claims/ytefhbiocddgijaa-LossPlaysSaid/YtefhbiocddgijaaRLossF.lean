/-
  The reference's Ack: what it answers; one packet against the ranges.
-/
import Derived.Test.YtefhbiocddgijaaRLossE
namespace Go.Proofs.Ytefhbiocddgijaa
open Go.RowKit
set_option linter.unusedVariables false
set_option linter.unusedSimpArgs false
def inX (p : RPk) (x : Int × Int) : Bool := decide (x.1 ≤ p.nu) && decide (p.nu ≤ x.2)
/-- What the reference takes for acknowledged. -/
def GA (r : List (Int × Int)) (p : RPk) : Bool := !p.go && r.any (inX p)
theorem marked_prev {G : RPk → Bool} {op : List RPk} {k : Nat} {p : RPk} (hx : op[k]? = some p) : (marked G op (k + 1))[k]? = some (markG G p) := by
  unfold marked
  obtain ⟨hl, hp⟩ := List.getElem?_eq_some_iff.1 hx
  rw [List.getElem?_append_left (by simp; omega), List.getElem?_map, List.getElem?_take_of_lt (by omega), hx]
  rfl
/-- One packet against some of the ranges. -/
structure RJ (w wr : World) (base x : Nat) (A : Option Addr) (c : Nat) (l : RG) (r : List (Int × Int)) (k : Nat) (p : RPk) (j m : Nat) (tk : Bool) (A1 : Option Addr) (c1 : Nat) : Prop where
  tky : tk = (!p.go && (r.take j).any (inX p))
  no : tk = false → RI w wr base x A c l (GA r) k m A1 c1
  yes : tk = true → RI w wr base x A c l (GA r) (k + 1) m A1 c1
section
variable {w wr : World} {base x : Nat} {A : Option Addr} {c : Nat} {l : RG} {r : List (Int × Int)} {k : Nat} {p : RPk} {j m : Nat} {tk : Bool} {A1 : Option Addr} {c1 : Nat}
theorem RJ.start (h : RI w wr base x A c l (GA r) k m A1 c1) (p : RPk) : RJ w wr base x A c l r k p 0 m false A1 c1 := ⟨by simp, fun _ => h, fun h => by cases h⟩
theorem RJ.alloc (h : RJ w wr base x A c l r k p j m tk A1 c1) (o : Obj) : RJ w (wr.alloc o) base x A c l r k p j m tk A1 c1 := ⟨h.tky, fun e => (h.no e).alloc o, fun e => (h.yes e).alloc o⟩
theorem RJ.frm (h : RJ w wr base x A c l r k p j m tk A1 c1) : Frm w wr (LedS x A) := by
  cases tk with
  | true => exact (h.yes rfl).fr
  | false => exact (h.no rfl).fr
theorem RJ.led (h : RJ w wr base x A c l r k p j m tk A1 c1) (hx : l.op[k]? = some p) : ∃ l', RLed wr base x A c l' ∧ l'.op.length = l.op.length ∧ l'.op[k]? = some (if tk then mkR p else p) := by
  have hl := (List.getElem?_eq_some_iff.1 hx).1
  cases tk with
  | true =>
    refine ⟨⟨marked (GA r) l.op (k + 1), l.nx, l.ak, l.hs⟩, (h.yes rfl).led, marked_len _ _ _, ?_⟩
    show (marked (GA r) l.op (k + 1))[k]? = _
    rw [marked_prev hx]
    have h1 := h.tky
    unfold markG GA
    have h2 : r.any (inX p) = true := by
      rw [eq_comm, Bool.and_eq_true] at h1
      obtain ⟨y, hy, hy2⟩ := List.any_eq_true.1 h1.2
      exact List.any_eq_true.2 ⟨y, List.mem_of_mem_take hy, hy2⟩
    rw [eq_comm, Bool.and_eq_true] at h1
    rw [h1.1, h2]
    rfl
  | false => exact ⟨⟨marked (GA r) l.op k, l.nx, l.ak, l.hs⟩, (h.no rfl).led, marked_len _ _ _, (marked_at _ _ hl).trans hx⟩
theorem any_snoc {y : Int × Int} (hy : r[j]? = some y) (p : RPk) : (r.take (j + 1)).any (inX p) = ((r.take j).any (inX p) || inX p y) := by
  rw [take_snoc hy, List.any_append]; simp
theorem RJ.stay (h : RJ w wr base x A c l r k p j m tk A1 c1) {y : Int × Int} (hy : r[j]? = some y) (hn : tk = true ∨ p.go = true ∨ inX p y = false) : RJ w wr base x A c l r k p (j + 1) m tk A1 c1 := by
  refine ⟨?_, h.no, h.yes⟩
  rw [any_snoc hy, h.tky]
  rcases hn with h1 | h1 | h1
  · have := h.tky
    rw [h1, eq_comm, Bool.and_eq_true] at this
    rw [this.1, this.2]; rfl
  · rw [h1]; rfl
  · rw [h1]; simp
theorem RJ.done (h : RJ w wr base x A c l r k p j m tk A1 c1) (hx : l.op[k]? = some p) (hj : r.length ≤ j) : RI w wr base x A c l (GA r) (k + 1) m A1 c1 := by
  have h1 := h.tky
  rw [List.take_of_length_le hj] at h1
  cases tk with
  | true => exact h.yes rfl
  | false => exact (h.no rfl).skip hx h1.symm
end
end Go.Proofs.Ytefhbiocddgijaa
