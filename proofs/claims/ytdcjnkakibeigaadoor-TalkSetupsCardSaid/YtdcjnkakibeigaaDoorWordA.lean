/-
  What the parser of word's messages takes, by value; takeBit, takePlace, takeList.
-/
import Derived.Test.YtdcjnkakibeigaaDoorPrsC
import Derived.Test.YtdcjnkakibeigaaDoorStepV
import Derived.Laws.Rows
namespace Go.Proofs.YtdcjnkakibeigaaDoor
open Go.RowKit
set_option linter.unusedVariables false
set_option linter.unusedSimpArgs false
def pnum (p : List Int) : Option (Int × List Int) := if rdS p = 0 then none else some (rdN p, p.drop (rdS p))
def pbit : List Int → Option (Bool × List Int)
  | [] => none
  | x :: r => if x ≤ 1 then some (x == 1, r) else none
def pplace (p : List Int) : Option ((Int × Int) × List Int) :=
  match pnum p with
  | none => none
  | some (a, q) => match pnum q with
    | none => none
    | some (b, r) => some ((a, b), r)
def ptext (m : Nat) (p : List Int) : Option (List Int × List Int) :=
  match pnum p with
  | none => none
  | some (n, q) => if n ≤ m ∧ n ≤ q.length then some (q.take n.toNat, q.drop n.toNat) else none
def pnums : Nat → List Int → Option (List Int × List Int)
  | 0, p => some ([], p)
  | k + 1, p => match pnum p with
    | none => none
    | some (a, q) => match pnums k q with
      | none => none
      | some (l, r) => some (a :: l, r)
def plist (p : List Int) : Option (List Int × List Int) :=
  match pnum p with
  | none => none
  | some (c, q) => if c ≤ 8 then pnums c.toNat q else none
section
variable {gp g B : Nat} {p q : List Int} {L : Int} {w : World}
theorem pnum_some {n : Int} (h : pnum p = some (n, q)) : rdS p ≠ 0 ∧ rdN p = n ∧ p.drop (rdS p) = q := by
  unfold pnum at h
  split at h
  · cases h
  · rename_i h0
    injection h with h
    injection h with h1 h2
    exact ⟨h0, h1, h2⟩
theorem pnum_none (h : pnum p = none) : rdS p = 0 := by
  unfold pnum at h
  split at h
  · assumption
  · cases h
theorem pnum_bd (hb : Bytes p) {n : Int} (h : pnum p = some (n, q)) : 0 ≤ n ∧ Bytes q := by
  obtain ⟨_, rfl, rfl⟩ := pnum_some h
  exact ⟨rdN_nonneg p hb, hb.drop _⟩
theorem only_set_new {a w : World} {row : Option Nat} (h : a.grownBy w row) {p : Addr} (hp : a.heap.size ≤ p.block) (u : Value) : a.grownBy (w.setCell p u) row :=
  ⟨h.os, h.tape, h.output, by simpa [World.setCell] using h.size, fun i hi hne => (Below.heap_setCell w p u i (by rintro rfl; omega)).trans (h.block i hi hne)⟩
theorem info_place : (Tryd.prog.info? 25).map (·.size) = some 2 := by kernel_rfl
theorem pnums_cut : ∀ {k : Nat} {p : List Int} {l q : List Int}, pnums k p = some (l, q) → l.length = k
  | 0, p, l, q, h => by simp [pnums] at h; simp [h.1.symm]
  | k + 1, p, l, q, h => by
    unfold pnums at h
    split at h
    · cases h
    · split at h
      · cases h
      · rename_i l' r' h2
        injection h with h
        injection h with h1 _
        rw [← h1, List.length_cons, pnums_cut h2]
theorem only_row_new {a b c : World} {row row2 : Option Nat} (h : a.grownBy b row) (hg : b.grownBy c row2) (hr : ∀ k, row2 = some k → a.heap.size ≤ k) : a.grownBy c row :=
  ⟨hg.os.trans h.os, hg.tape.trans h.tape, hg.output.trans h.output, Nat.le_trans h.size hg.size, fun i hi hne => (hg.block i (Nat.lt_of_lt_of_le hi h.size) (fun e => by have := hr i e.symm; omega)).trans (h.block i hi hne)⟩
end
end Go.Proofs.YtdcjnkakibeigaaDoor
