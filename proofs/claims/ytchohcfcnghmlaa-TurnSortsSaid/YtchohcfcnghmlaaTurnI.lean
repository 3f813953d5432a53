/-
  turn: insertion (pure).
-/
import Derived.Test.YtchohcfcnghmlaaTurnH
namespace Go.Proofs.Ytchohcfcnghmlaa
open Go.RowKit
set_option linter.unusedVariables false
set_option linter.unusedSimpArgs false
/-- The element of place i stands at j. -/
def Ins (D C : List Nat) (i j : Nat) : Prop := C.length = D.length ∧ C.Perm D ∧ ∀ x, C[x]? = if x = j then D[i]? else if j < x ∧ x ≤ i then D[x - 1]? else D[x]?
theorem Ins.zero (D : List Nat) (i : Nat) : Ins D D i i := ⟨rfl, List.Perm.refl _, fun x => by
  by_cases h : x = i
  · rw [if_pos h, h]
  · rw [if_neg h, if_neg (by omega)]⟩
theorem Ins.step {D C : List Nat} {i j : Nat} (h : Ins D C i j) (hj : 0 < j) (hi : j ≤ i) (hl : i < D.length) : Ins D (swp C j (j - 1)) i (j - 1) := by
  obtain ⟨h1, h2, h3⟩ := h
  refine ⟨by rw [swp_len, h1], (swp_perm C (by omega) (by omega)).trans h2, fun x => ?_⟩
  rw [swp_at C (by omega) (by omega), h3 x, h3 j, h3 (j - 1)]
  rw [if_pos rfl, if_neg (show ¬ j - 1 = j by omega), if_neg (show ¬ (j < j - 1 ∧ j - 1 ≤ i) by omega)]
  by_cases e1 : x = j
  · rw [if_pos e1, if_neg (by omega), if_pos (by omega), e1]
  · rw [if_neg e1]
    by_cases e2 : x = j - 1
    · rw [if_pos e2, if_pos e2]
    · rw [if_neg e2, if_neg e2, if_neg e1]
      by_cases e3 : j < x ∧ x ≤ i
      · rw [if_pos e3, if_pos (by omega)]
      · rw [if_neg e3, if_neg (by omega)]
/-- Where the element has come to rest all is sorted. -/
theorem ins_done {l : List R3} {D C : List Nat} {a i j v : Nat} (h : Ins D C i j) (haj : a ≤ j) (hji : j ≤ i) (hl : i < D.length) (hv : D[i]? = some v) (hs : Srt l D a i)
    (hlow : a < j → ∃ u, D[j - 1]? = some u ∧ bef l u v = true) (hup : ∀ x u, j ≤ x → x < i → D[x]? = some u → bef l v u = true) : Srt l C a (i + 1) ∧ ∀ u, Mm C a (i + 1) u ↔ Mm D a (i + 1) u := by
  obtain ⟨h1, h2, h3⟩ := h
  have low : ∀ x u, a ≤ x → x < j → D[x]? = some u → bef l u v = true := by
    intro x u hx hxj e
    obtain ⟨u', e', hb⟩ := hlow (by omega)
    by_cases hxe : x = j - 1
    · rw [hxe, e'] at e
      injection e with e
      subst e
      exact hb
    · exact bef_trans (hs x (j - 1) u u' hx (by omega) (by omega) e e') hb
  constructor
  · intro x y u w hx hxy hy e1 e2
    rw [h3] at e1 e2
    by_cases c1 : x = j
    · rw [if_pos c1, hv] at e1
      injection e1 with e1
      subst e1
      rw [if_neg (by omega), if_pos (by omega)] at e2
      exact hup (y - 1) w (by omega) (by omega) e2
    · rw [if_neg c1] at e1
      by_cases c2 : j < x ∧ x ≤ i
      · rw [if_pos c2] at e1
        rw [if_neg (by omega), if_pos (by omega)] at e2
        exact hs (x - 1) (y - 1) u w (by omega) (by omega) (by omega) e1 e2
      · rw [if_neg c2] at e1
        by_cases c3 : y = j
        · rw [if_pos c3, hv] at e2
          injection e2 with e2
          subst e2
          exact low x u hx (by omega) e1
        · rw [if_neg c3] at e2
          by_cases c4 : j < y ∧ y ≤ i
          · rw [if_pos c4] at e2
            exact hs x (y - 1) u w hx (by omega) (by omega) e1 e2
          · rw [if_neg c4] at e2
            exact hs x y u w hx hxy (by omega) e1 e2
  · intro u
    constructor
    · rintro ⟨x, hx, hxi, e⟩
      rw [h3] at e
      by_cases c1 : x = j
      · rw [if_pos c1] at e
        exact ⟨i, by omega, by omega, e⟩
      · rw [if_neg c1] at e
        by_cases c2 : j < x ∧ x ≤ i
        · rw [if_pos c2] at e
          exact ⟨x - 1, by omega, by omega, e⟩
        · rw [if_neg c2] at e
          exact ⟨x, hx, hxi, e⟩
    · rintro ⟨x, hx, hxi, e⟩
      by_cases c1 : x = i
      · exact ⟨j, haj, by omega, by rw [h3, if_pos rfl, ← c1]; exact e⟩
      · by_cases c2 : j ≤ x
        · exact ⟨x + 1, by omega, by omega, by rw [h3, if_neg (by omega), if_pos (by omega)]; simpa using e⟩
        · exact ⟨x, hx, hxi, by rw [h3, if_neg (by omega), if_neg (by omega)]; exact e⟩
/-- What the sorting of [a, b) leaves. -/
structure Ord (l : List R3) (D D' : List Nat) (a b : Nat) : Prop where
  len : D'.length = D.length
  perm : D'.Perm D
  out : ∀ x, ¬ (a ≤ x ∧ x < b) → D'[x]? = D[x]?
  srt : Srt l D' a b
  mem : ∀ v, Mm D' a b v ↔ Mm D a b v
theorem Ord.ins {l : List R3} {D D' C : List Nat} {a i j v : Nat} (o : Ord l D D' a i) (h : Ins D' C i j) (haj : a ≤ j) (hji : j ≤ i) (hl : i < D.length) (hv : D'[i]? = some v)
    (hlow : a < j → ∃ u, D'[j - 1]? = some u ∧ bef l u v = true) (hup : ∀ x u, j ≤ x → x < i → D'[x]? = some u → bef l v u = true) : Ord l D C a (i + 1) := by
  have d := ins_done h haj hji (by rw [o.len]; exact hl) hv o.srt hlow hup
  refine ⟨h.1.trans o.len, h.2.1.trans o.perm, fun x hx => ?_, d.1, fun u => (d.2 u).trans ?_⟩
  · rw [h.2.2 x, if_neg (by omega), if_neg (by omega)]
    exact o.out x (by omega)
  · rw [Mm.join (show a ≤ i by omega) (show i ≤ i + 1 by omega), Mm.join (D := D) (show a ≤ i by omega) (show i ≤ i + 1 by omega), o.mem u]
    have e : D'[i]? = D[i]? := o.out i (by omega)
    constructor
    · rintro (h | ⟨x, h1, h2, h3⟩)
      · exact .inl h
      · obtain rfl : x = i := by omega
        exact .inr ⟨x, h1, h2, e ▸ h3⟩
    · rintro (h | ⟨x, h1, h2, h3⟩)
      · exact .inl h
      · obtain rfl : x = i := by omega
        exact .inr ⟨x, h1, h2, e.symm ▸ h3⟩
/-- The comparison, as a closure that only lays new blocks. -/
structure Cmp (l : List R3) (N : Nat) (w0 : World) (f : Nat) (cb : Array Value) : Prop where
  eg : ∀ args w, (callFunc f args).run Try.prog w = .ok (.enter f args) w
  run : ∀ W i j, Below w0.heap.size w0 W → i < N → j < N → Calls Try.prog f (#[.int .i64 ((i : Nat) : Int), .int .i64 ((j : Nat) : Int)] ++ cb) W fun e w' => e = .returned (.int .i64 (cmp3 (rk l i) (rk l j))) ∧ Below W.heap.size W w'
end Go.Proofs.Ytchohcfcnghmlaa
