/-
  turn: the order of places by rank; lists of places (pure).
-/
import Derived.Test.YtchohcfcnghmlaaTurnC
namespace Go.Proofs.Ytchohcfcnghmlaa
open Go.RowKit
set_option linter.unusedVariables false
set_option linter.unusedSimpArgs false
theorem less3_iff (a b : R3) : less3 a b = true ↔ a.x < b.x ∨ a.x = b.x ∧ (a.y < b.y ∨ a.y = b.y ∧ a.z < b.z) := by
  unfold less3
  split
  · simp; omega
  · split
    · simp; omega
    · simp; omega
def rk (l : List R3) (i : Nat) : R3 := l.getD i ⟨0, 0, 0⟩
/-- Place i goes ahead of place j. -/
def bef (l : List R3) (i j : Nat) : Bool := less3 (rk l i) (rk l j) || (decide (i < j) && !less3 (rk l j) (rk l i))
theorem bef_iff (l : List R3) (i j : Nat) : bef l i j = true ↔ (rk l i).x < (rk l j).x ∨ (rk l i).x = (rk l j).x ∧ ((rk l i).y < (rk l j).y ∨ (rk l i).y = (rk l j).y ∧ ((rk l i).z < (rk l j).z ∨ (rk l i).z = (rk l j).z ∧ i < j)) := by
  unfold bef
  have h1 := less3_iff (rk l i) (rk l j)
  have h2 := less3_iff (rk l j) (rk l i)
  rw [Bool.or_eq_true, Bool.and_eq_true, decide_eq_true_iff, h1, Bool.not_eq_true', ← Bool.not_eq_true, h2]
  omega
theorem bef_trans {l : List R3} {i j k : Nat} (h1 : bef l i j = true) (h2 : bef l j k = true) : bef l i k = true := by
  rw [bef_iff] at *
  omega
theorem bef_irrefl (l : List R3) (i : Nat) : ¬ bef l i i = true := by
  rw [bef_iff]
  omega
theorem bef_total {l : List R3} {i j : Nat} (h : i ≠ j) (hn : ¬ bef l i j = true) : bef l j i = true := by
  rw [bef_iff] at *
  omega
/-- What the comparison tells of a place and one ahead of it in the list. -/
theorem cmp_bef (l : List R3) {i j : Nat} (h : j < i) : cmp3 (rk l i) (rk l j) < 0 ↔ bef l i j = true := by
  have h1 : decide (cmp3 (rk l i) (rk l j) < 0) = less3 (rk l i) (rk l j) := less3_cmp _ _
  have h2 : bef l i j = less3 (rk l i) (rk l j) := by
    unfold bef
    rw [decide_eq_false (by omega)]
    simp
  rw [h2, ← h1]
  simp
/-- Sorted from a up to b. -/
def Srt (l : List R3) (D : List Nat) (a b : Nat) : Prop := ∀ x y u v, a ≤ x → x < y → y < b → D[x]? = some u → D[y]? = some v → bef l u v = true
def Mm (D : List Nat) (a b v : Nat) : Prop := ∃ x, a ≤ x ∧ x < b ∧ D[x]? = some v
theorem Srt.sub {l : List R3} {D : List Nat} {a b a' b' : Nat} (h : Srt l D a b) (ha : a ≤ a') (hb : b' ≤ b) : Srt l D a' b' := fun x y u v h1 h2 h3 => h x y u v (by omega) h2 (by omega)
/-- Two sorted ones of which the first is ahead. -/
theorem Srt.join {l : List R3} {D : List Nat} {a m b : Nat} (h1 : Srt l D a m) (h2 : Srt l D m b) (hc : ∀ u v, Mm D a m u → Mm D m b v → bef l u v = true) : Srt l D a b := by
  intro x y u v hx hxy hy e1 e2
  by_cases h : y < m
  · exact h1 x y u v hx hxy h e1 e2
  · by_cases h' : x < m
    · exact hc u v ⟨x, hx, h', e1⟩ ⟨y, by omega, hy, e2⟩
    · exact h2 x y u v (by omega) hxy hy e1 e2
theorem Mm.join {D : List Nat} {a m b v : Nat} (h1 : a ≤ m) (h2 : m ≤ b) : Mm D a b v ↔ Mm D a m v ∨ Mm D m b v := by
  constructor
  · rintro ⟨x, hx, hxb, e⟩
    by_cases h : x < m
    · exact .inl ⟨x, hx, h, e⟩
    · exact .inr ⟨x, by omega, hxb, e⟩
  · rintro (⟨x, hx, hxb, e⟩ | ⟨x, hx, hxb, e⟩)
    · exact ⟨x, hx, by omega, e⟩
    · exact ⟨x, by omega, hxb, e⟩
/-- Two places change. -/
def swp (D : List Nat) (i j : Nat) : List Nat := (D.set i (D.getD j 0)).set j (D.getD i 0)
theorem swp_len (D : List Nat) (i j : Nat) : (swp D i j).length = D.length := by simp [swp]
theorem swp_at (D : List Nat) {i j : Nat} (hi : i < D.length) (hj : j < D.length) (x : Nat) : (swp D i j)[x]? = if x = i then D[j]? else if x = j then D[i]? else D[x]? := by
  unfold swp
  rw [List.getElem?_set, List.getElem?_set]
  have e1 : D.getD i 0 = D[i] := by simp [List.getD, List.getElem?_eq_getElem hi]
  have e2 : D.getD j 0 = D[j] := by simp [List.getD, List.getElem?_eq_getElem hj]
  rw [e1, e2]
  by_cases h1 : x = i
  · subst h1
    by_cases h2 : j = x
    · subst h2
      simp [hi]
    · simp [h2, hi, hj]
  · by_cases h2 : x = j
    · subst h2
      simp [h1, hi, hj]
    · simp [h1, h2, Ne.symm h1, Ne.symm h2]
theorem swp_perm (D : List Nat) {i j : Nat} (hi : i < D.length) (hj : j < D.length) : (swp D i j).Perm D := by
  unfold swp
  have e1 : D.getD i 0 = D[i] := by simp [List.getD, List.getElem?_eq_getElem hi]
  have e2 : D.getD j 0 = D[j] := by simp [List.getD, List.getElem?_eq_getElem hj]
  rw [e1, e2]
  exact List.set_set_perm hi hj
/-- Two ranges of n places change. -/
def SwR (D D' : List Nat) (a b n : Nat) : Prop := D'.length = D.length ∧ D'.Perm D ∧ ∀ x, D'[x]? = if a ≤ x ∧ x < a + n then D[b + (x - a)]? else if b ≤ x ∧ x < b + n then D[a + (x - b)]? else D[x]?
theorem SwR.zero (D : List Nat) (a b : Nat) : SwR D D a b 0 := ⟨rfl, List.Perm.refl _, fun x => by rw [if_neg (by omega), if_neg (by omega)]⟩
theorem SwR.step {D D' : List Nat} {a b n : Nat} (h : SwR D D' a b n) (h1 : a + n < D.length) (h2 : b + n < D.length) (hd : a + n < b ∨ b + n < a) : SwR D (swp D' (a + n) (b + n)) a b (n + 1) := by
  obtain ⟨hl, hp, hx⟩ := h
  refine ⟨by rw [swp_len, hl], (swp_perm D' (by omega) (by omega)).trans hp, fun x => ?_⟩
  rw [swp_at D' (by omega) (by omega), hx x, hx (a + n), hx (b + n)]
  rw [if_neg (show ¬ (a ≤ b + n ∧ b + n < a + n) by omega), if_neg (show ¬ (b ≤ b + n ∧ b + n < b + n) by omega), if_neg (show ¬ (a ≤ a + n ∧ a + n < a + n) by omega), if_neg (show ¬ (b ≤ a + n ∧ a + n < b + n) by omega)]
  by_cases e1 : x = a + n
  · rw [if_pos e1, if_pos (by omega), e1]
    congr 1
    omega
  · rw [if_neg e1]
    by_cases e2 : x = b + n
    · rw [if_pos e2, if_neg (by omega), if_pos (by omega), e2]
      congr 1
      omega
    · rw [if_neg e2]
      by_cases e3 : a ≤ x ∧ x < a + n
      · rw [if_pos e3, if_pos (by omega)]
      · rw [if_neg e3, if_neg (show ¬ (a ≤ x ∧ x < a + (n + 1)) by omega)]
        by_cases e4 : b ≤ x ∧ x < b + n
        · rw [if_pos e4, if_pos (by omega)]
        · rw [if_neg e4, if_neg (by omega)]
/-- From a to m and from m to b change sides. -/
def rotF (D : List Nat) (a m b x : Nat) : Option Nat := if a ≤ x ∧ x < b then (if x < a + (b - m) then D[m + (x - a)]? else D[x - (b - m)]?) else D[x]?
theorem rot_done {D D' : List Nat} {m i : Nat} (hi : i ≤ m) (h : SwR D D' (m - i) m i) (x : Nat) : D'[x]? = rotF D (m - i) m (m + i) x := by
  rw [h.2.2]
  unfold rotF
  by_cases e1 : m - i ≤ x ∧ x < m - i + i
  · rw [if_pos e1, if_pos (by omega), if_pos (by omega)]
  · rw [if_neg e1]
    by_cases e2 : m ≤ x ∧ x < m + i
    · rw [if_pos e2, if_pos (by omega), if_neg (by omega)]
      congr 1
      omega
    · rw [if_neg e2, if_neg (by omega)]
theorem rot_left {D D' : List Nat} {m i j : Nat} (hi : i ≤ m) (hj : j < i) (h : SwR D D' (m - i) m j) (x : Nat) : rotF D' (m - (i - j)) m (m + j) x = rotF D (m - i) m (m + j) x := by
  unfold rotF
  by_cases c0 : m - i ≤ x ∧ x < m + j
  · rw [if_pos c0]
    by_cases c1 : m - (i - j) ≤ x
    · rw [if_pos (by omega)]
      by_cases c2 : x < m - (i - j) + (m + j - m)
      · rw [if_pos c2, h.2.2]
        rw [if_neg (by omega), if_pos (by omega), if_neg (by omega)]
        congr 1
        omega
      · rw [if_neg c2, if_neg (by omega), h.2.2, if_neg (by omega), if_neg (by omega)]
    · rw [if_neg (by omega), h.2.2, if_pos (by omega), if_pos (by omega)]
  · rw [if_neg c0, if_neg (by omega), h.2.2, if_neg (by omega), if_neg (by omega)]
theorem rot_right {D D' : List Nat} {m i j : Nat} (hi : i ≤ m) (hj : i < j) (h : SwR D D' (m - i) (m + j - i) i) (x : Nat) : rotF D' (m - i) m (m + (j - i)) x = rotF D (m - i) m (m + j) x := by
  unfold rotF
  by_cases c0 : m - i ≤ x ∧ x < m + j
  · rw [if_pos c0]
    by_cases c1 : x < m + (j - i)
    · rw [if_pos (by omega)]
      by_cases c2 : x < m - i + (m + (j - i) - m)
      · rw [if_pos c2, if_pos (by omega), h.2.2]
        by_cases c3 : m - i ≤ m + (x - (m - i)) ∧ m + (x - (m - i)) < m - i + i
        · omega
        · rw [if_neg c3, if_neg (by omega)]
      · rw [if_neg c2, h.2.2, if_pos (by omega), if_pos (by omega)]
        congr 1
        omega
    · rw [if_neg (by omega), if_neg (by omega), h.2.2, if_neg (by omega), if_pos (by omega)]
      congr 1
      omega
  · rw [if_neg c0, if_neg (by omega), h.2.2, if_neg (by omega), if_neg (by omega)]
end Go.Proofs.Ytchohcfcnghmlaa
