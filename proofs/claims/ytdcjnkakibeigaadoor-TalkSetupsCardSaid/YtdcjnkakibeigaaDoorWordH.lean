/-
  word.parse: takeField for every field; the loop.
-/
import Derived.Test.YtdcjnkakibeigaaDoorWordG
namespace Go.Proofs.YtdcjnkakibeigaaDoor
open Go.RowKit
set_option linter.unusedVariables false
set_option linter.unusedSimpArgs false
def fbit (k : Nat) : Int := 2 ^ k
def mv0 (k : Int) : MV := ⟨k, 0, 0, [], 0, 0, 0, 0, 0, 0, false, 0, [], 0, 0, []⟩
def hasB (own : Int) (k : Nat) : Bool := bits .and .u16 own (fbit k) != 0
def runF (own : Int) : Nat → MV → List Int → Option (MV × List Int)
  | 0, m, p => some (m, p)
  | k + 1, m, p => match runF own k m p with
    | none => none
    | some (m', p') => if hasB own k then takeF k m' p' else some (m', p')
def parseW (kind : Int) (p : List Int) : Option MV :=
  match runF (foW kind) 13 (mv0 kind) p with
  | none => none
  | some (m, q) => if q.isEmpty && validB m then some m else none
section
variable {gp g gm base B : Nat} {p q : List Int} {m m' : MV} {w w' : World}
theorem frm_g (hg : w.grownBy w' (some g)) : Frm w w' (fun b => b = g ∨ b = gm) := (Frm.refl w _).grown hg (fun r hr => .inr (.inl (by injection hr with hr; exact hr.symm)))
end
theorem takeF_kind {k : Nat} {m m' : MV} {p q : List Int} (h : takeF k m p = some (m', q)) : m'.kind = m.kind := by
  unfold takeF at h
  split at h
  all_goals (first
    | (obtain ⟨v, _, h4⟩ := Option.map_eq_some_iff.1 h; injection h4 with h4 _; rw [← h4])
    | (split at h
       · cases h
       · injection h with h; injection h with h _; rw [← h])
    | (split at h <;> (obtain ⟨v, _, h4⟩ := Option.map_eq_some_iff.1 h; injection h4 with h4 _; rw [← h4]))
    | (injection h with h; injection h with h _; rw [← h]))
end Go.Proofs.YtdcjnkakibeigaaDoor
