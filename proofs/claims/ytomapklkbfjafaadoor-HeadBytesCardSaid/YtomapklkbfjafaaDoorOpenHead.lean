/-
  A head (a struct of five cells) by value, opened.
-/
import Derived.Test.YtomapklkbfjafaaDoorOpen
namespace Go.Proofs.YtomapklkbfjafaaDoor
open Go.ChangeShapes Go.WideShapes Go.ChangeAt Go.RowKit
set_option linter.unusedVariables false

theorem list5 {α : Type} : ∀ (l : List α), l.length = 5 → ∃ a b c d e, l = [a, b, c, d, e]
  | [a, b, c, d, e], _ => ⟨a, b, c, d, e, rfl⟩
theorem open_head {H : Type} {enc : TypeId × Value → H} {w : World} {base b0 : Nat} {r : Reach} {sp : Nat → Bool} {held : Bool} {v : Value} {d : DataW H} {p : List MemPlace}
    (hv : Value.okWide Tryd.prog w r b0 24 v) (h : DataW.Trod enc Tryd.prog w base sp held 24 v d p) :
    ∃ (lg : Bool) (lv : Int) (ph : Bool) (A : Option Addr) (c : Nat) (a : List Int) (B : Option Addr) (c' : Nat) (b : List Int),
      v = .agg #[.bool lg, .int .i64 lv, .bool ph, .slice A a.length c, .slice B b.length c'] ∧ Sl w A c a ∧ Bytes a ∧ Sl w B c' b ∧ Bytes b := by
  obtain ⟨cs, rfl, hsz⟩ := okWide_struct Tryd.underlying24 hv
  obtain ⟨fuel, hf⟩ := h
  obtain ⟨xs, m, _, _, hl, hn, hel⟩ := DataW.trod_struct Tryd.underlying24 hf
  have hc5 : Tryd.prog.cellsOf 24 = 5 := by kernel_rfl
  have hl5 : cs.toList.length = 5 := by rw [← hc5, ← hsz]; rfl
  obtain ⟨u0, u1, u2, u3, u4, hcs⟩ := list5 cs.toList hl5
  obtain ⟨y0, y1, y2, y3, y4, rfl⟩ := list5 xs hn
  have e : cs = #[u0, u1, u2, u3, u4] := by rw [← Array.toArray_toList (xs := cs), hcs]
  subst e
  have kb : Tryd.prog.cellsOf 4 = 1 := by kernel_rfl
  have ki : Tryd.prog.cellsOf 3 = 1 := by kernel_rfl
  have ks : Tryd.prog.cellsOf 22 = 1 := by kernel_rfl
  have g0 : DataW.trod enc Tryd.prog w base sp held m 4 [u0] = some y0 := by
    have h : DataW.trod enc Tryd.prog w base sp held m 4 ((([u0, u1, u2, u3, u4] : List Value).drop 0).take (Tryd.prog.cellsOf 4)) = some y0 := hel 0 _ rfl
    rw [kb] at h
    exact h
  have g1 : DataW.trod enc Tryd.prog w base sp held m 3 [u1] = some y1 := by
    have h : DataW.trod enc Tryd.prog w base sp held m 3 ((([u0, u1, u2, u3, u4] : List Value).drop 1).take (Tryd.prog.cellsOf 3)) = some y1 := hel 1 _ rfl
    rw [ki] at h
    exact h
  have g2 : DataW.trod enc Tryd.prog w base sp held m 4 [u2] = some y2 := by
    have h : DataW.trod enc Tryd.prog w base sp held m 4 ((([u0, u1, u2, u3, u4] : List Value).drop 2).take (Tryd.prog.cellsOf 4)) = some y2 := hel 2 _ rfl
    rw [kb] at h
    exact h
  have g3 : DataW.trod enc Tryd.prog w base sp held m 22 [u3] = some y3 := by
    have h : DataW.trod enc Tryd.prog w base sp held m 22 ((([u0, u1, u2, u3, u4] : List Value).drop 3).take (Tryd.prog.cellsOf 22)) = some y3 := hel 3 _ rfl
    rw [ks] at h
    exact h
  have g4 : DataW.trod enc Tryd.prog w base sp held m 22 [u4] = some y4 := by
    have h : DataW.trod enc Tryd.prog w base sp held m 22 ((([u0, u1, u2, u3, u4] : List Value).drop 4).take (Tryd.prog.cellsOf 22)) = some y4 := hel 4 _ rfl
    rw [ks] at h
    exact h
  clear hel
  obtain ⟨b0, e0, _⟩ := DataW.trod_bool Tryd.underlying4 g0
  obtain ⟨i1, e1, _, _⟩ := DataW.trod_int Tryd.underlying3 g1
  obtain ⟨b2, e2, _⟩ := DataW.trod_bool Tryd.underlying4 g2
  obtain ⟨t3, e3, s3, q3⟩ := open_u8v g3
  obtain ⟨t4, e4, s4, q4⟩ := open_u8v g4
  injection e0 with e0
  injection e1 with e1
  injection e2 with e2
  subst e0 e1 e2 e3 e4
  exact ⟨b0, i1, b2, t3.1, t3.2.1, t3.2.2, t4.1, t4.2.1, t4.2.2, rfl, s3, q3, s4, q4⟩
end Go.Proofs.YtomapklkbfjafaaDoor
