/-
  The head of a stream, as the law gives it: opened.
-/
import Derived.Test.YtpaglcojbcndoaaDoorOpenObj
import Derived.Test.YtpaglcojbcndoaaDoorItemT
namespace Go.Proofs.YtpaglcojbcndoaaDoor
set_option maxRecDepth 100000
open Go.ChangeShapes Go.WideShapes Go.ChangeAt Go.RowKit
set_option linter.unusedVariables false
theorem hd_cells {H : Type} {enc : TypeId × Value → H} {w : World} {base : Nat} {sp : Nat → Bool} {held : Bool} {cs : List Value} {fuel : Nat} {y : DataW H × List MemPlace}
    (h : DataW.trod enc Tryd.prog w base sp held fuel 50 cs = some y) : ∃ x : IH, cs = (ihC x).toList ∧ IHOk x := by
  obtain ⟨xs, m, _, _, hl, hn, hel⟩ := DataW.trod_struct Tryd.underlying50 h
  have hc : Tryd.prog.cellsOf 50 = 4 := by kernel_rfl
  obtain ⟨u0, u1, u2, u3, rfl⟩ := list4I cs (by rw [hl, hc])
  obtain ⟨y0, y1, y2, y3, rfl⟩ := list4I xs hn
  have k0 : Tryd.prog.cellsOf 4 = 1 := by kernel_rfl
  have k1 : Tryd.prog.cellsOf 22 = 1 := by kernel_rfl
  have k3 : Tryd.prog.cellsOf 5 = 1 := by kernel_rfl
  have g0 : DataW.trod enc Tryd.prog w base sp held m 4 [u0] = some y0 := by
    have h : DataW.trod enc Tryd.prog w base sp held m 4 ((([u0, u1, u2, u3] : List Value).drop 0).take (Tryd.prog.cellsOf 4)) = some y0 := hel 0 _ rfl
    rw [k0] at h
    exact h
  have g1 : DataW.trod enc Tryd.prog w base sp held m 22 [u1] = some y1 := by
    have h : DataW.trod enc Tryd.prog w base sp held m 22 ((([u0, u1, u2, u3] : List Value).drop 1).take (Tryd.prog.cellsOf 22)) = some y1 := hel 1 _ rfl
    rw [k1] at h
    exact h
  have g2 : DataW.trod enc Tryd.prog w base sp held m 22 [u2] = some y2 := by
    have h : DataW.trod enc Tryd.prog w base sp held m 22 ((([u0, u1, u2, u3] : List Value).drop 2).take (Tryd.prog.cellsOf 22)) = some y2 := hel 2 _ rfl
    rw [k1] at h
    exact h
  have g3 : DataW.trod enc Tryd.prog w base sp held m 5 [u3] = some y3 := by
    have h : DataW.trod enc Tryd.prog w base sp held m 5 ((([u0, u1, u2, u3] : List Value).drop 3).take (Tryd.prog.cellsOf 5)) = some y3 := hel 3 _ rfl
    rw [k3] at h
    exact h
  clear hel
  obtain ⟨a0, e0⟩ := bool_of_trod Tryd.underlying4 g0
  obtain ⟨a1, e1, w1⟩ := int_of_trod Tryd.underlying22 g1
  obtain ⟨a2, e2, w2⟩ := int_of_trod Tryd.underlying22 g2
  obtain ⟨a3, e3, w3⟩ := int_of_trod Tryd.underlying5 g3
  subst e0
  subst e1
  subst e2
  subst e3
  exact ⟨⟨a0, a1, a2, a3⟩, rfl, ⟨(wf_u64 w1).1, (wf_u64 w2).1, wf_u8 w3⟩⟩
theorem open_hd16 {H : Type} {enc : TypeId × Value → H} {w : World} {base b0 : Nat} {r : Reach} {sp : Nat → Bool} {held : Bool} {v : Value} {d : DataW H} {p : List MemPlace}
    (hv : Value.okWide Tryd.prog w r b0 50 v) (h : DataW.Trod enc Tryd.prog w base sp held 50 v d p) :
    ∃ (x : IH), v = .agg (ihC x) ∧ IHOk x := by
  obtain ⟨cs, rfl, hsz⟩ := okWide_struct Tryd.underlying50 hv
  obtain ⟨fuel, hf⟩ := h
  obtain ⟨x, e, h1⟩ := hd_cells hf
  refine ⟨x, ?_, h1⟩
  congr 1
  exact Array.toList_inj.1 e
end Go.Proofs.YtpaglcojbcndoaaDoor
