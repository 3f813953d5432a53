/-
  Slices of ranges (two words each): as arguments, as rows of the call's own.
-/
import Derived.Test.YtefhbiocddgijaaOpenT
import Derived.Test.YtefhbiocddgijaaInts
namespace Go.Proofs.Ytefhbiocddgijaa
open Go.RowKit
set_option linter.unusedVariables false

def RgV (l : List (Int × Int)) : List Value := l.flatMap PairC
theorem RgV_nil : RgV [] = [] := rfl
theorem RgV_cons (p : Int × Int) (l : List (Int × Int)) : RgV (p :: l) = .int .u64 p.1 :: .int .u64 p.2 :: RgV l := rfl
theorem RgV_length : ∀ l : List (Int × Int), (RgV l).length = l.length * 2
  | [] => rfl
  | p :: l => by rw [RgV_cons]; simp [RgV_length l]; omega
theorem RgV_append (a b : List (Int × Int)) : RgV (a ++ b) = RgV a ++ RgV b := by simp [RgV]
theorem RgV_one : ∀ l : List (Int × Int), ∀ u ∈ RgV l, u.oneCell' = true
  | [], u, h => by cases h
  | p :: l, u, h => by
    rw [RgV_cons] at h
    rcases List.mem_cons.1 h with rfl | h
    · rfl
    · rcases List.mem_cons.1 h with rfl | h
      · rfl
      · exact RgV_one l u h
theorem RgV_take : ∀ (l : List (Int × Int)) (k : Nat), (RgV l).take (k * 2) = RgV (l.take k)
  | [], k => by simp [RgV]
  | p :: l, 0 => by simp [RgV]
  | p :: l, k + 1 => by
    rw [RgV_cons, List.take_succ_cons, RgV_cons, ← RgV_take l k, show (k + 1) * 2 = k * 2 + 1 + 1 by omega]
    rfl
theorem RgV_get0 : ∀ {l : List (Int × Int)} {i : Nat} {p : Int × Int}, l[i]? = some p → (RgV l)[i * 2]? = some (.int .u64 p.1)
  | [], i, p, h => by simp at h
  | q :: l, 0, p, h => by simp at h; subst h; rfl
  | q :: l, i + 1, p, h => by
    rw [RgV_cons, show (i + 1) * 2 = i * 2 + 1 + 1 by omega, List.getElem?_cons_succ, List.getElem?_cons_succ]
    exact RgV_get0 (by simpa using h)
theorem RgV_get1 : ∀ {l : List (Int × Int)} {i : Nat} {p : Int × Int}, l[i]? = some p → (RgV l)[i * 2 + 1]? = some (.int .u64 p.2)
  | [], i, p, h => by simp at h
  | q :: l, 0, p, h => by simp at h; subst h; rfl
  | q :: l, i + 1, p, h => by
    rw [RgV_cons, show (i + 1) * 2 + 1 = i * 2 + 1 + 1 + 1 by omega, List.getElem?_cons_succ, List.getElem?_cons_succ]
    exact RgV_get1 (by simpa using h)
/-- The slice '.slice A l.length c' reads as these ranges. -/
def RdG (w : World) (A : Option Addr) (l : List (Int × Int)) : Prop := Reads w w.heap.size 2 A l.length (RgV l)
section
variable {w w' : World} {A : Option Addr} {l : List (Int × Int)}
theorem RdG.below (h : RdG w A l) (hb : Below w.heap.size w w') : RdG w' A l := (Reads.below h hb).more hb.size
theorem RdG.alloc (h : RdG w A l) (o : Obj) : RdG (w.alloc o) A l := (Reads.alloc h (Nat.le_refl _) o).more (by simp)
theorem RdG.nil (w : World) (A : Option Addr) : RdG w A [] := ⟨by simp [RgV], fun h => absurd h (by simp)⟩
theorem RdG.upto (h : RdG w A l) {k : Nat} (hk : k ≤ l.length) : RdG w A (l.take k) := by
  have := Reads.upto h hk
  unfold RdG
  rw [← RgV_take, show (l.take k).length = k by simp [hk]]
  exact this
theorem RdG.at_ (h : RdG w A l) {i : Nat} (hi : i < l.length) : ∃ b off p, A = some ⟨b, off, none⟩ ∧ b < w.heap.size ∧ l[i]? = some p ∧ w.cell? ⟨b, off + i * 2, none⟩ = some (.int .u64 p.1) ∧ w.cell? ⟨b, off + i * 2 + 1, none⟩ = some (.int .u64 p.2) := by
  obtain ⟨ad, e, hb, hc⟩ := h.2 (by omega)
  obtain ⟨b, off, spot⟩ := ad
  have hx : l[i]? = some l[i] := List.getElem?_eq_getElem hi
  have h0 := hc _ _ (RgV_get0 (List.getElem?_eq_getElem (show 0 < l.length by omega)))
  have hs : spot = none := by simpa [Addr.add] using World.cell?_spot h0
  subst hs
  refine ⟨b, off, l[i], e, hb, hx, ?_, ?_⟩
  · have := hc _ _ (RgV_get0 hx)
    rwa [add_none] at this
  · have := hc _ _ (RgV_get1 hx)
    rwa [add_none, ← Nat.add_assoc] at this
theorem RdG.of_T {ok : Int × Int → Prop} (h : RdT 2 PairC ok w A l) : RdG w A l := by
  rcases h.row with h0 | ⟨b, off, rfl, hlt, hc⟩
  · rw [List.eq_nil_of_length_eq_zero h0]
    exact RdG.nil _ _
  · refine ⟨RgV_length l, fun _ => ⟨_, rfl, hlt, fun j u hu => ?_⟩⟩
    have hj : j < l.length * 2 := by
      rw [← RgV_length]
      rcases Nat.lt_or_ge j (RgV l).length with h | h
      · exact h
      · rw [List.getElem?_eq_none h] at hu; cases hu
    have hx : l[j / 2]? = some l[j / 2] := List.getElem?_eq_getElem (by omega)
    rw [add_none]
    rcases (show j = j / 2 * 2 ∨ j = j / 2 * 2 + 1 by omega) with e | e
    · have h1 := RgV_get0 hx
      rw [← e, hu] at h1
      have := hc (j / 2) 0 (by omega) (by omega)
      rw [hx, Nat.add_zero, ← e] at this
      rw [this, h1]
      rfl
    · have h1 := RgV_get1 hx
      rw [← e, hu] at h1
      have := hc (j / 2) 1 (by omega) (by omega)
      rw [hx, ← e] at this
      rw [this, h1]
      rfl
end
/-- A row of ranges of the call's own. -/
def OwnG (w : World) (base : Nat) (A : Option Addr) (c : Nat) (l : List (Int × Int)) : Prop := OwnV w base 61 2 A c l.length (RgV l)
section
variable {w w' : World} {A : Option Addr} {c base : Nat} {l : List (Int × Int)}
theorem OwnG.reads (h : OwnG w base A c l) : RdG w A l := OwnV.reads h
theorem OwnG.below (h : OwnG w base A c l) (hb : Below w.heap.size w w') : OwnG w' base A c l := OwnV.below h hb
theorem own_g0 (w : World) {base : Nat} (hb : base ≤ w.heap.size) : OwnG (w.alloc (.cells #[] 61)) base (some ⟨w.heap.size, 0, none⟩) 0 [] :=
  ⟨by simp [RgV], .inr ⟨w.heap.size, 0, #[], rfl, hb, Blk.new w _ _, Nat.le_refl _, by simp, by simp, by simp [RgV]⟩⟩
end
theorem info_range : (Try.prog.info? 61).map (fun i => (i.zero, i.size, i.bytes)) = some (some (.agg #[.int .u64 0, .int .u64 0]), 2, 16) := by kernel_rfl
end Go.Proofs.Ytefhbiocddgijaa
