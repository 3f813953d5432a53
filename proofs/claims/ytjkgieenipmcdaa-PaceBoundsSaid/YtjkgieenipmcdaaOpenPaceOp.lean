/-
  A slice of structs colonnadelaw08.Op, opened (made by structs.py).
-/
import Derived.Test.YtjkgieenipmcdaaOpenT
namespace Go.Proofs.Ytjkgieenipmcdaa
open Go.ChangeShapes Go.WideShapes Go.ChangeAt Go.RowKit
set_option linter.unusedVariables false
structure PaceOp where
  what : Int
  n : Int
  sent : Int
  now : Int
def PaceOpC (x : PaceOp) : List Value := [.int .u8 x.what, .int .i64 x.n, .int .u64 x.sent, .int .u64 x.now]
def PaceOpOk (x : PaceOp) : Prop := (Lit.int .u8 x.what).wf = true ∧ (Lit.int .i64 x.n).wf = true ∧ (Lit.int .u64 x.sent).wf = true ∧ (Lit.int .u64 x.now).wf = true ∧ True
theorem paceOp_list {α : Type} : ∀ (l : List α), l.length = 4 → ∃ a0 a1 a2 a3, l = [a0, a1, a2, a3]
  | [a0, a1, a2, a3], _ => ⟨a0, a1, a2, a3, rfl⟩
theorem paceOp_cells {H : Type} {enc : TypeId × Value → H} {w : World} {base : Nat} {sp : Nat → Bool} {held : Bool} {cs : List Value} {fuel : Nat} {y : DataW H × List MemPlace}
    (h : DataW.trod enc Try.prog w base sp held fuel 44 cs = some y) : ∃ x : PaceOp, cs = PaceOpC x ∧ PaceOpOk x := by
  obtain ⟨xs, m, _, _, hl, hn, hel⟩ := DataW.trod_struct Try.underlying44 h
  have hc : Try.prog.cellsOf 44 = 4 := by kernel_rfl
  obtain ⟨u0, u1, u2, u3, rfl⟩ := paceOp_list cs (by rw [hl, hc])
  obtain ⟨y0, y1, y2, y3, rfl⟩ := paceOp_list xs hn
  have k_uint8 : Try.prog.cellsOf 5 = 1 := by kernel_rfl
  have k_int : Try.prog.cellsOf 3 = 1 := by kernel_rfl
  have k_uint64 : Try.prog.cellsOf 26 = 1 := by kernel_rfl
  have g0 : DataW.trod enc Try.prog w base sp held m 5 [u0] = some y0 := by
    have h : DataW.trod enc Try.prog w base sp held m 5 ((([u0, u1, u2, u3] : List Value).drop 0).take (Try.prog.cellsOf 5)) = some y0 := hel 0 _ rfl
    rw [k_uint8] at h
    exact h
  have g1 : DataW.trod enc Try.prog w base sp held m 3 [u1] = some y1 := by
    have h : DataW.trod enc Try.prog w base sp held m 3 ((([u0, u1, u2, u3] : List Value).drop 1).take (Try.prog.cellsOf 3)) = some y1 := hel 1 _ rfl
    rw [k_int] at h
    exact h
  have g2 : DataW.trod enc Try.prog w base sp held m 26 [u2] = some y2 := by
    have h : DataW.trod enc Try.prog w base sp held m 26 ((([u0, u1, u2, u3] : List Value).drop 2).take (Try.prog.cellsOf 26)) = some y2 := hel 2 _ rfl
    rw [k_uint64] at h
    exact h
  have g3 : DataW.trod enc Try.prog w base sp held m 26 [u3] = some y3 := by
    have h : DataW.trod enc Try.prog w base sp held m 26 ((([u0, u1, u2, u3] : List Value).drop 3).take (Try.prog.cellsOf 26)) = some y3 := hel 3 _ rfl
    rw [k_uint64] at h
    exact h
  clear hel
  obtain ⟨a0, rfl, w0⟩ := int_of_trod Try.underlying5 g0
  obtain ⟨a1, rfl, w1⟩ := int_of_trod Try.underlying3 g1
  obtain ⟨a2, rfl, w2⟩ := int_of_trod Try.underlying26 g2
  obtain ⟨a3, rfl, w3⟩ := int_of_trod Try.underlying26 g3
  exact ⟨⟨a0, a1, a2, a3⟩, rfl, w0, w1, w2, w3, trivial⟩
theorem open_paceOps {H : Type} {enc : TypeId × Value → H} {w : World} {base : Nat} {sp : Nat → Bool} {held : Bool} {a : Option Addr} {len cap fuel : Nat} {x : DataW H × List MemPlace}
    (h : DataW.trod enc Try.prog w base sp held fuel 38 [.slice a len cap] = some x) :
    ∃ xs, RdT 4 PaceOpC PaceOpOk w a xs ∧ len = xs.length ∧ xs.length ≤ cap ∧ cap ≤ 9223372036854775807 ∧ (a = none → cap = 0) :=
  open_T Try.underlying38 (by kernel_rfl) (by omega) ⟨0, 0, 0, 0⟩ paceOp_cells h
end Go.Proofs.Ytjkgieenipmcdaa
