/-
  turn: how many places are ahead of one (pure).
-/
import Derived.Test.YtchohcfcnghmlaaTurnR
namespace Go.Proofs.Ytchohcfcnghmlaa
open Go.RowKit
set_option linter.unusedVariables false
set_option linter.unusedSimpArgs false
/-- So many places below N are ahead of i. -/
def cnt (l : List R3) (N i : Nat) : Nat := (List.range N).countP fun k => bef l k i
theorem cnt_zero (l : List R3) (i : Nat) : cnt l 0 i = 0 := rfl
theorem cnt_succ (l : List R3) (k i : Nat) : cnt l (k + 1) i = cnt l k i + if bef l k i = true then 1 else 0 := by
  unfold cnt
  rw [List.range_succ, List.countP_append]
  simp [List.countP_cons]
theorem cnt_le (l : List R3) (k i : Nat) : cnt l k i ≤ k := by
  have := List.countP_le_length (p := fun k => bef l k i) (l := List.range k)
  simpa [cnt] using this
theorem cnt_of {l : List R3} {N p v : Nat} {D : List Nat} (hp : D.Perm (List.range N)) (hs : Srt l D 0 N) (hl : D.length = N) (e : D[p]? = some v) : cnt l N v = p := by
  have hpl : p < D.length := by
    rcases Nat.lt_or_ge p D.length with h | h
    · exact h
    · rw [List.getElem?_eq_none h] at e; cases e
  unfold cnt
  rw [← hp.countP_eq]
  have h1 : (D.take p).countP (fun k => bef l k v) = p := by
    rw [List.countP_eq_length.2]
    · rw [List.length_take]; omega
    · intro a ha
      obtain ⟨x, hx, ex⟩ := List.getElem_of_mem ha
      have hxp : x < p := by rw [List.length_take] at hx; omega
      rw [List.getElem_take] at ex
      exact hs x p a v (by omega) hxp (by omega) (by rw [List.getElem?_eq_getElem (by omega), ex]) e
  have h2 : (D.drop p).countP (fun k => bef l k v) = 0 := by
    rw [List.countP_eq_zero]
    intro a ha hb
    obtain ⟨x, hx, ex⟩ := List.getElem_of_mem ha
    rw [List.getElem_drop] at ex
    have hx2 : p + x < D.length := by rw [List.length_drop] at hx; omega
    by_cases h0 : x = 0
    · subst h0
      have : a = v := by
        rw [List.getElem?_eq_getElem hpl] at e
        injection e with e
        rw [← ex, ← e]
        rfl
      subst this
      exact bef_irrefl l a hb
    · have := hs p (p + x) v a (by omega) (by omega) (by omega) e (by rw [List.getElem?_eq_getElem hx2, ex])
      exact bef_irrefl l a (bef_trans hb this)
  have h3 : D = D.take p ++ D.drop p := (List.take_append_drop p D).symm
  rw [h3, List.countP_append, h1, h2]
  exact Nat.add_zero p
/-- Each place stands where so many are ahead of it. -/
theorem cnt_pos {l : List R3} {N v : Nat} {D : List Nat} (hp : D.Perm (List.range N)) (hs : Srt l D 0 N) (hl : D.length = N) (hv : v < N) : D[cnt l N v]? = some v := by
  have hm : v ∈ D := hp.mem_iff.2 (by simpa using hv)
  obtain ⟨p, hpl, e⟩ := List.getElem_of_mem hm
  have e' : D[p]? = some v := by rw [List.getElem?_eq_getElem hpl, e]
  rw [cnt_of hp hs hl e']
  exact e'
/-- A row that has each place there is the sorted one. -/
theorem cnt_all {l : List R3} {N : Nat} {D O : List Nat} (hp : D.Perm (List.range N)) (hs : Srt l D 0 N) (hl : D.length = N) (ho : O.length = N) (h : ∀ v, v < N → O[cnt l N v]? = some v) : O = D := by
  apply List.ext_getElem?
  intro x
  by_cases hx : x < N
  · have e : D[x]? = some D[x] := List.getElem?_eq_getElem (by omega)
    have hv : D[x] < N := by
      have := hp.mem_iff.1 (List.getElem_mem (by omega : x < D.length))
      simpa using this
    have := h D[x] hv
    rw [cnt_of hp hs hl e] at this
    rw [this, e]
  · rw [List.getElem?_eq_none (by omega), List.getElem?_eq_none (by omega)]
end Go.Proofs.Ytchohcfcnghmlaa
