/-
  The reader: Need, Left, take.
-/
import Derived.Test.YtdcjnkakibeigaaDoorScanA
namespace Go.Proofs.YtdcjnkakibeigaaDoor
open Go.RowKit
set_option linter.unusedVariables false

/-- A slice of bytes that lie in blocks below B. -/
structure SlB (w : World) (B : Nat) (A : Option Addr) (c : Nat) (l : List Int) : Prop where
  rd : Reads w B 1 A l.length (U8 l)
  le : l.length ≤ c
  max : c ≤ 9223372036854775807
  nil : A = none → c = 0
theorem SlB.none_ (w : World) (B : Nat) : SlB w B none 0 [] := ⟨⟨by simp [U8], fun h => absurd h (by simp)⟩, by simp, by omega, fun _ => rfl⟩
theorem SlB.keep {w w' : World} {B : Nat} {A : Option Addr} {c : Nat} {l : List Int} (h : SlB w B A c l) (hk : ∀ p : Addr, p.block < B → w'.cell? p = w.cell? p) : SlB w' B A c l := ⟨h.rd.keep hk, h.le, h.max, h.nil⟩
theorem SlB.grown {w w' : World} {B g : Nat} {A : Option Addr} {c : Nat} {l : List Int} (h : SlB w B A c l) (hg : w.grownBy w' (some g)) (hB : B ≤ w.heap.size) (hr : B ≤ g) : SlB w' B A c l :=
  ⟨h.rd.grown hg hB (by rintro _ ⟨⟩; exact hr), h.le, h.max, h.nil⟩
theorem SlB.setCell {w : World} {B : Nat} {A : Option Addr} {c : Nat} {l : List Int} (h : SlB w B A c l) {p : Addr} (hB : B ≤ p.block) (u : Value) : SlB (w.setCell p u) B A c l := ⟨h.rd.setCell hB u, h.le, h.max, h.nil⟩
theorem slice_upto_is (A : Option Addr) (c n k : Nat) (kd : IntKind) (z : Int) (hz : z = k) (hk : k ≤ n) (hc : n ≤ c) (w : World) :
    (Instr.slice 23 (.slice A n c) none (some (.int kd z)) none).run Tryd.prog w = .ok (.slice A k c) w := by
  subst hz
  rw [run_slice_h (P := Tryd.prog) w 23 A n c (by rw [elem_u8]; exact Tryd.underlying23) kd (k : Int) (by omega) (by omega), elem_u8, run_sizeOf_u8]
  cases A <;> simp [sliced, Addr.add]
theorem slice_from_is (A : Option Addr) (c n k : Nat) (kd : IntKind) (z : Int) (hz : z = k) (hk : k ≤ n) (hc : n ≤ c) (w : World) :
    (Instr.slice 23 (.slice A n c) (some (.int kd z)) none none).run Tryd.prog w = .ok (.slice (if c = k then A else A.map (·.add (k * 1))) (n - k) (c - k)) w := by
  subst hz
  rw [run_slice_l (P := Tryd.prog) w 23 A n c (by rw [elem_u8]; exact Tryd.underlying23) kd (k : Int) (by omega) (by omega), elem_u8, run_sizeOf_u8]
  simp [sliced]
theorem SlB.upto {w : World} {B : Nat} {A : Option Addr} {c : Nat} {l : List Int} (h : SlB w B A c l) {k : Nat} (hk : k ≤ l.length) : SlB w B A c (l.take k) := by
  have e : (l.take k).length = k := by simp [hk]
  have hl := h.le
  refine ⟨?_, by omega, h.max, h.nil⟩
  have := h.rd.upto hk
  rw [Nat.mul_one] at this
  rw [e, U8_take]
  exact this
theorem SlB.from_ {w : World} {B : Nat} {A : Option Addr} {c : Nat} {l : List Int} (h : SlB w B A c l) {k : Nat} (hk : k ≤ l.length) : SlB w B (if c = k then A else A.map (·.add (k * 1))) (c - k) (l.drop k) := by
  have e : (l.drop k).length = l.length - k := by simp
  have hl := h.le
  refine ⟨?_, by omega, by have := h.max; omega, fun hn => ?_⟩
  · have := h.rd.cut hk hl
    simp only [Nat.mul_one] at this ⊢
    rw [e, U8_drop]
    exact this
  · split at hn
    · have := h.nil hn; omega
    · cases A with
      | none => have := h.nil rfl; omega
      | some a => cases hn

/-- What Need leaves as the error. -/
def needE (e : Int) (m n : Nat) : Int := if e = 0 ∧ m < n then 2 else e

/-- What is taken; what is left; the error. -/
def tkO (p : List Int) (e : Int) (n : Nat) : List Int := if e = 0 ∧ n ≤ p.length then p.take n else []
def tkL (p : List Int) (e : Int) (n : Nat) : List Int := if e = 0 ∧ n ≤ p.length then p.drop n else p
end Go.Proofs.YtdcjnkakibeigaaDoor
