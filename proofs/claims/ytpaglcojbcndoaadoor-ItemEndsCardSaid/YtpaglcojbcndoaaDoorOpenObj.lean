/-
  An object by value, a slice of objects: opened.
-/
import Derived.Test.YtpaglcojbcndoaaDoorItemJ
import Derived.Test.YtpaglcojbcndoaaDoorOpenT
import Derived.Test.YtpaglcojbcndoaaDoorOpen
import Derived.Test.YtpaglcojbcndoaaDoorInts
namespace Go.Proofs.YtpaglcojbcndoaaDoor
set_option maxRecDepth 100000
open Go.ChangeShapes Go.WideShapes Go.ChangeAt Go.RowKit
set_option linter.unusedVariables false
theorem list5I {α : Type} : ∀ (l : List α), l.length = 5 → ∃ a b c d e, l = [a, b, c, d, e]
  | [a, b, c, d, e], _ => ⟨a, b, c, d, e, rfl⟩
theorem list4I {α : Type} : ∀ (l : List α), l.length = 4 → ∃ a b c d, l = [a, b, c, d]
  | [a, b, c, d], _ => ⟨a, b, c, d, rfl⟩
theorem place_cellsI {H : Type} {enc : TypeId × Value → H} {w : World} {base : Nat} {sp : Nat → Bool} {held : Bool} {cs : List Value} {fuel : Nat} {y : DataW H × List MemPlace}
    (h : DataW.trod enc Tryd.prog w base sp held fuel 24 cs = some y) : ∃ a b : Int, cs = [.int .u64 a, .int .u64 b] ∧ 0 ≤ a ∧ 0 ≤ b := by
  obtain ⟨xs, m, _, _, hl, hn, hel⟩ := DataW.trod_struct Tryd.underlying24 h
  have hc : Tryd.prog.cellsOf 24 = 2 := by kernel_rfl
  have h1 : Tryd.prog.cellsOf 22 = 1 := by kernel_rfl
  obtain ⟨u0, u1, rfl⟩ := list2 cs (by rw [hl, hc])
  obtain ⟨y0, y1, rfl⟩ := list2 xs hn
  have g0 : DataW.trod enc Tryd.prog w base sp held m 22 [u0] = some y0 := by
    have h : DataW.trod enc Tryd.prog w base sp held m 22 ((([u0, u1] : List Value).drop 0).take (Tryd.prog.cellsOf 22)) = some y0 := hel 0 _ rfl
    rw [h1] at h
    exact h
  have g1 : DataW.trod enc Tryd.prog w base sp held m 22 [u1] = some y1 := by
    have h : DataW.trod enc Tryd.prog w base sp held m 22 ((([u0, u1] : List Value).drop 1).take (Tryd.prog.cellsOf 22)) = some y1 := hel 1 _ rfl
    rw [h1] at h
    exact h
  obtain ⟨a0, rfl, w0⟩ := int_of_trod Tryd.underlying22 g0
  obtain ⟨a1, rfl, w1⟩ := int_of_trod Tryd.underlying22 g1
  exact ⟨a0, a1, rfl, (wf_u64 w0).1, (wf_u64 w1).1⟩
theorem obj_cells {H : Type} {enc : TypeId × Value → H} {w : World} {base : Nat} {sp : Nat → Bool} {held : Bool} {cs : List Value} {fuel : Nat} {y : DataW H × List MemPlace}
    (h : DataW.trod enc Tryd.prog w base sp held fuel 27 cs = some y) : ∃ x : RO, cs = ROC x ∧ OVOk w x.o x.A x.c := by
  obtain ⟨xs, m, _, _, hl, hn, hel⟩ := DataW.trod_struct Tryd.underlying27 h
  have hc : Tryd.prog.cellsOf 27 = 5 := by kernel_rfl
  obtain ⟨u0, u1, u2, u3, u4, rfl⟩ := list5I cs (by rw [hl, hc])
  obtain ⟨y0, y1, y2, y3, rfl⟩ := list4I xs hn
  have k0 : Tryd.prog.cellsOf 24 = 2 := by kernel_rfl
  have k1 : Tryd.prog.cellsOf 5 = 1 := by kernel_rfl
  have k2 : Tryd.prog.cellsOf 4 = 1 := by kernel_rfl
  have k3 : Tryd.prog.cellsOf 25 = 1 := by kernel_rfl
  have g0 : DataW.trod enc Tryd.prog w base sp held m 24 [u0, u1] = some y0 := by
    have h : DataW.trod enc Tryd.prog w base sp held m 24 ((([u0, u1, u2, u3, u4] : List Value).drop 0).take (Tryd.prog.cellsOf 24)) = some y0 := hel 0 _ rfl
    rw [k0] at h
    exact h
  have g1 : DataW.trod enc Tryd.prog w base sp held m 5 [u2] = some y1 := by
    have h : DataW.trod enc Tryd.prog w base sp held m 5 ((([u0, u1, u2, u3, u4] : List Value).drop 2).take (Tryd.prog.cellsOf 5)) = some y1 := hel 1 _ rfl
    rw [k1] at h
    exact h
  have g2 : DataW.trod enc Tryd.prog w base sp held m 4 [u3] = some y2 := by
    have h : DataW.trod enc Tryd.prog w base sp held m 4 ((([u0, u1, u2, u3, u4] : List Value).drop 3).take (Tryd.prog.cellsOf 4)) = some y2 := hel 2 _ rfl
    rw [k2] at h
    exact h
  have g3 : DataW.trod enc Tryd.prog w base sp held m 25 [u4] = some y3 := by
    have h : DataW.trod enc Tryd.prog w base sp held m 25 ((([u0, u1, u2, u3, u4] : List Value).drop 4).take (Tryd.prog.cellsOf 25)) = some y3 := hel 3 _ rfl
    rw [k3] at h
    exact h
  clear hel
  obtain ⟨a0, b0, e0, w0, x0⟩ := place_cellsI g0
  obtain ⟨e0, f0⟩ := List.cons.inj e0
  obtain ⟨f0, _⟩ := List.cons.inj f0
  obtain ⟨a1, e1, w1⟩ := int_of_trod Tryd.underlying5 g1
  obtain ⟨a2, e2⟩ := bool_of_trod Tryd.underlying4 g2
  obtain ⟨t3, e3, s3, q3⟩ := open_u8v g3
  subst e0
  subst f0
  subst e1
  subst e2
  subst e3
  exact ⟨⟨⟨a0, b0, a1, a2, t3.2.2⟩, t3.1, t3.2.1⟩, rfl, ⟨w0, x0, wf_u8 w1, s3, q3⟩⟩
theorem open_obj {H : Type} {enc : TypeId × Value → H} {w : World} {base b0 : Nat} {r : Reach} {sp : Nat → Bool} {held : Bool} {v : Value} {d : DataW H} {p : List MemPlace}
    (hv : Value.okWide Tryd.prog w r b0 27 v) (h : DataW.Trod enc Tryd.prog w base sp held 27 v d p) :
    ∃ (o : OV) (A : Option Addr) (c : Nat), v = .agg (ovC o A c) ∧ OVOk w o A c := by
  obtain ⟨cs, rfl, hsz⟩ := okWide_struct Tryd.underlying27 hv
  obtain ⟨fuel, hf⟩ := h
  obtain ⟨x, e, h1⟩ := obj_cells hf
  refine ⟨x.o, x.A, x.c, ?_, h1⟩
  rw [← Array.toArray_toList (xs := cs), show cs.toList = _ from e]
  unfold ROC
  rw [Array.toArray_toList]
theorem open_objs {H : Type} {enc : TypeId × Value → H} {w : World} {base : Nat} {sp : Nat → Bool} {held : Bool} {a : Option Addr} {len cap fuel : Nat} {x : DataW H × List MemPlace}
    (h : DataW.trod enc Tryd.prog w base sp held fuel 38 [.slice a len cap] = some x) :
    ∃ xs, RdT 5 ROC (fun x => OVOk w x.o x.A x.c) w a xs ∧ len = xs.length ∧ xs.length ≤ cap ∧ cap ≤ 9223372036854775807 ∧ (a = none → cap = 0) :=
  open_T Tryd.underlying38 (by kernel_rfl) (by omega) ⟨⟨0, 0, 0, false, []⟩, none, 0⟩ obj_cells h
end Go.Proofs.YtpaglcojbcndoaaDoor
