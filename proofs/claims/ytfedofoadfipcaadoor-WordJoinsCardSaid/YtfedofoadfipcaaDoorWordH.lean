/-
  word.parse: takeField for every field; the loop.
-/
import Derived.Test.YtfedofoadfipcaaDoorWordG
namespace Go.Proofs.YtfedofoadfipcaaDoor
open Go.RowKit
set_option linter.unusedVariables false
set_option linter.unusedSimpArgs false
def fbit (k : Nat) : Int := 2 ^ k
def mv0 (k : Int) : MV := ⟨k, 0, 0, [], 0, 0, 0, 0, 0, 0, false, 0, [], 0, 0, []⟩
def hasB (own : Int) (k : Nat) : Bool := bits .and .u16 own (fbit k) != 0
def runF (own : Int) : Nat → MV → List Int → Option (MV × List Int)
  | 0, m, p => some (m, p)
  | k + 1, m, p => match runF own k m p with
    | none => none
    | some (m', p') => if hasB own k then takeF k m' p' else some (m', p')
def parseW (kind : Int) (p : List Int) : Option MV :=
  match runF (foW kind) 13 (mv0 kind) p with
  | none => none
  | some (m, q) => if q.isEmpty && validB m then some m else none
section
variable {gp g gm base B : Nat} {p q : List Int} {m m' : MV} {w w' : World}
theorem frm_g (hg : w.grownBy w' (some g)) : Frm w w' (fun b => b = g ∨ b = gm) := (Frm.refl w _).grown hg (fun r hr => .inr (.inl (by injection hr with hr; exact hr.symm)))
theorem takeField_ok (k : Nat) (hk : k < 13) (h : Prs w gp g B p 4) (hm : MsgAt w gm base m) (h1 : gm ≠ g) (h2 : gm ≠ gp) (hB : B ≤ gm) (hb : base ≤ w.heap.size) (hp : takeF k m p = some (m', q)) :
    Calls Tryd.prog 56 #[.pointer (some ⟨gp, 0, none⟩), .pointer (some ⟨gm, 0, none⟩), .int .u16 (fbit k)] w fun r w' => r = .returned (.tuple #[]) ∧ Prs w' gp g B q 4 ∧ MsgAt w' gm base m' ∧ Frm w w' (fun b => b = g ∨ b = gm) := by
  rcases (show k = 0 ∨ k = 1 ∨ k = 2 ∨ k = 3 ∨ k = 4 ∨ k = 5 ∨ k = 6 ∨ k = 7 ∨ k = 8 ∨ k = 9 ∨ k = 10 ∨ k = 11 ∨ k = 12 by omega) with rfl | rfl | rfl | rfl | rfl | rfl | rfl | rfl | rfl | rfl | rfl | rfl | rfl
  · obtain ⟨⟨v, q'⟩, h3, h4⟩ := Option.map_eq_some_iff.1 (show (pnum p).map _ = _ from hp)
    injection h4 with h4 h5
    subst h4 h5
    exact takeF0_ok h hm h1 h2 hB hb h3
  · obtain ⟨⟨v, q'⟩, h3, h4⟩ := Option.map_eq_some_iff.1 (show (pnum p).map _ = _ from hp)
    injection h4 with h4 h5
    subst h4 h5
    exact takeF1_ok h hm h1 h2 hB hb h3
  · obtain ⟨⟨v, q'⟩, h3, h4⟩ := Option.map_eq_some_iff.1 (show (ptext 32 p).map _ = _ from hp)
    injection h4 with h4 h5
    subst h4 h5
    exact takeF2_ok h hm h1 h2 hB hb h3
  · unfold takeF at hp
    cases p with
    | nil => cases hp
    | cons x r =>
      injection hp with hp
      injection hp with h4 h5
      subst h4 h5
      exact takeF3_ok h hm h1 h2 hB hb
  · unfold takeF at hp
    cases p with
    | nil => cases hp
    | cons x r =>
      injection hp with hp
      injection hp with h4 h5
      subst h4 h5
      exact takeF4_ok h hm h1 h2 hB hb
  · obtain ⟨⟨v, q'⟩, h3, h4⟩ := Option.map_eq_some_iff.1 (show (pbit p).map _ = _ from hp)
    injection h4 with h4 h5
    subst h4 h5
    exact takeF5_ok h hm h1 h2 hB hb h3
  · obtain ⟨⟨v, q'⟩, h3, h4⟩ := Option.map_eq_some_iff.1 (show (pplace p).map _ = _ from hp)
    injection h4 with h4 h5
    subst h4 h5
    exact takeF6_ok h hm h1 h2 hB hb h3
  · unfold takeF at hp
    simp only at hp
    by_cases hk3 : m.kind = 3
    · rw [if_pos hk3] at hp
      obtain ⟨⟨v, q'⟩, h3, h4⟩ := Option.map_eq_some_iff.1 hp
      injection h4 with h4 h5
      subst h4 h5
      exact takeF7s_ok h hm h1 h2 hB hb h3 hk3
    · rw [if_neg hk3] at hp
      obtain ⟨⟨v, q'⟩, h3, h4⟩ := Option.map_eq_some_iff.1 hp
      injection h4 with h4 h5
      subst h4 h5
      exact takeF7_ok h hm h1 h2 hB hb h3 (by simpa using hk3)
  · obtain ⟨⟨v, q'⟩, h3, h4⟩ := Option.map_eq_some_iff.1 (show (pnum p).map _ = _ from hp)
    injection h4 with h4 h5
    subst h4 h5
    exact takeF8_ok h hm h1 h2 hB hb h3
  · obtain ⟨⟨v, q'⟩, h3, h4⟩ := Option.map_eq_some_iff.1 (show (ptext 64 p).map _ = _ from hp)
    injection h4 with h4 h5
    subst h4 h5
    exact takeF9_ok h hm h1 h2 hB hb h3
  · obtain ⟨⟨v, q'⟩, h3, h4⟩ := Option.map_eq_some_iff.1 (show (plist p).map _ = _ from hp)
    injection h4 with h4 h5
    subst h4 h5
    exact takeF10_ok h hm h1 h2 hB hb h3
  · obtain ⟨⟨v, q'⟩, h3, h4⟩ := Option.map_eq_some_iff.1 (show (pnum p).map _ = _ from hp)
    injection h4 with h4 h5
    subst h4 h5
    exact takeF11_ok h hm h1 h2 hB hb h3
  · obtain ⟨⟨v, q'⟩, h3, h4⟩ := Option.map_eq_some_iff.1 (show (pnum p).map _ = _ from hp)
    injection h4 with h4 h5
    subst h4 h5
    exact takeF12_ok h hm h1 h2 hB hb h3
theorem takeField_no (k : Nat) (hk : k < 13) (h : Prs w gp g B p 4) (hm : MsgAt w gm base m) (h1 : gm ≠ g) (h2 : gm ≠ gp) (hB : B ≤ gm) (hb : base ≤ w.heap.size) (hp : takeF k m p = none) :
    Calls Tryd.prog 56 #[.pointer (some ⟨gp, 0, none⟩), .pointer (some ⟨gm, 0, none⟩), .int .u16 (fbit k)] w fun r w' => r = dies 4 ∧ w.grownBy w' (some g) := by
  rcases (show k = 0 ∨ k = 1 ∨ k = 2 ∨ k = 3 ∨ k = 4 ∨ k = 5 ∨ k = 6 ∨ k = 7 ∨ k = 8 ∨ k = 9 ∨ k = 10 ∨ k = 11 ∨ k = 12 by omega) with rfl | rfl | rfl | rfl | rfl | rfl | rfl | rfl | rfl | rfl | rfl | rfl | rfl
  · exact takeF0_no h hm h1 h2 hB hb (Option.map_eq_none_iff.1 (show (pnum p).map _ = _ from hp))
  · exact takeF1_no h hm h1 h2 hB hb (Option.map_eq_none_iff.1 (show (pnum p).map _ = _ from hp))
  · exact takeF2_no h hm h1 h2 hB hb (Option.map_eq_none_iff.1 (show (ptext 32 p).map _ = _ from hp))
  · unfold takeF at hp
    cases p with
    | nil => exact takeF3_no h hm h1 h2 hB hb
    | cons x r => cases hp
  · unfold takeF at hp
    cases p with
    | nil => exact takeF4_no h hm h1 h2 hB hb
    | cons x r => cases hp
  · exact takeF5_no h hm h1 h2 hB hb (Option.map_eq_none_iff.1 (show (pbit p).map _ = _ from hp))
  · exact takeF6_no h hm h1 h2 hB hb (Option.map_eq_none_iff.1 (show (pplace p).map _ = _ from hp))
  · unfold takeF at hp
    simp only at hp
    by_cases hk3 : m.kind = 3
    · rw [if_pos hk3] at hp
      exact takeF7s_no h hm h1 h2 hB hb (Option.map_eq_none_iff.1 hp) hk3
    · rw [if_neg hk3] at hp
      exact takeF7_no h hm h1 h2 hB hb (Option.map_eq_none_iff.1 hp) (by simpa using hk3)
  · exact takeF8_no h hm h1 h2 hB hb (Option.map_eq_none_iff.1 (show (pnum p).map _ = _ from hp))
  · exact takeF9_no h hm h1 h2 hB hb (Option.map_eq_none_iff.1 (show (ptext 64 p).map _ = _ from hp))
  · exact takeF10_no h hm h1 h2 hB hb (Option.map_eq_none_iff.1 (show (plist p).map _ = _ from hp))
  · exact takeF11_no h hm h1 h2 hB hb (Option.map_eq_none_iff.1 (show (pnum p).map _ = _ from hp))
  · exact takeF12_no h hm h1 h2 hB hb (Option.map_eq_none_iff.1 (show (pnum p).map _ = _ from hp))
end
theorem takeF_kind {k : Nat} {m m' : MV} {p q : List Int} (h : takeF k m p = some (m', q)) : m'.kind = m.kind := by
  unfold takeF at h
  split at h
  all_goals (first
    | (obtain ⟨v, _, h4⟩ := Option.map_eq_some_iff.1 h; injection h4 with h4 _; rw [← h4])
    | (split at h
       · cases h
       · injection h with h; injection h with h _; rw [← h])
    | (split at h <;> (obtain ⟨v, _, h4⟩ := Option.map_eq_some_iff.1 h; injection h4 with h4 _; rw [← h4]))
    | (injection h with h; injection h with h _; rw [← h]))
end Go.Proofs.YtfedofoadfipcaaDoor
