/-
  A slice of structs colonnadelaw11.Op, opened (made by structs.py).
-/
import Derived.Test.YtgddlamfjjdlfaaOpenT
namespace Go.Proofs.Ytgddlamfjjdlfaa
open Go.ChangeShapes Go.WideShapes Go.ChangeAt Go.RowKit
set_option linter.unusedVariables false
structure CreditOp where
  what : Int
  n : Int
def CreditOpC (x : CreditOp) : List Value := [.int .u8 x.what, .int .u64 x.n]
def CreditOpOk (x : CreditOp) : Prop := (Lit.int .u8 x.what).wf = true ∧ (Lit.int .u64 x.n).wf = true ∧ True
theorem creditOp_list {α : Type} : ∀ (l : List α), l.length = 2 → ∃ a0 a1, l = [a0, a1]
  | [a0, a1], _ => ⟨a0, a1, rfl⟩
theorem creditOp_cells {H : Type} {enc : TypeId × Value → H} {w : World} {base : Nat} {sp : Nat → Bool} {held : Bool} {cs : List Value} {fuel : Nat} {y : DataW H × List MemPlace}
    (h : DataW.trod enc Try.prog w base sp held fuel 32 cs = some y) : ∃ x : CreditOp, cs = CreditOpC x ∧ CreditOpOk x := by
  obtain ⟨xs, m, _, _, hl, hn, hel⟩ := DataW.trod_struct Try.underlying32 h
  have hc : Try.prog.cellsOf 32 = 2 := by kernel_rfl
  obtain ⟨u0, u1, rfl⟩ := creditOp_list cs (by rw [hl, hc])
  obtain ⟨y0, y1, rfl⟩ := creditOp_list xs hn
  have k_uint8 : Try.prog.cellsOf 5 = 1 := by kernel_rfl
  have k_uint64 : Try.prog.cellsOf 22 = 1 := by kernel_rfl
  have g0 : DataW.trod enc Try.prog w base sp held m 5 [u0] = some y0 := by
    have h : DataW.trod enc Try.prog w base sp held m 5 ((([u0, u1] : List Value).drop 0).take (Try.prog.cellsOf 5)) = some y0 := hel 0 _ rfl
    rw [k_uint8] at h
    exact h
  have g1 : DataW.trod enc Try.prog w base sp held m 22 [u1] = some y1 := by
    have h : DataW.trod enc Try.prog w base sp held m 22 ((([u0, u1] : List Value).drop 1).take (Try.prog.cellsOf 22)) = some y1 := hel 1 _ rfl
    rw [k_uint64] at h
    exact h
  clear hel
  obtain ⟨a0, rfl, w0⟩ := int_of_trod Try.underlying5 g0
  obtain ⟨a1, rfl, w1⟩ := int_of_trod Try.underlying22 g1
  exact ⟨⟨a0, a1⟩, rfl, w0, w1, trivial⟩
theorem open_creditOps {H : Type} {enc : TypeId × Value → H} {w : World} {base : Nat} {sp : Nat → Bool} {held : Bool} {a : Option Addr} {len cap fuel : Nat} {x : DataW H × List MemPlace}
    (h : DataW.trod enc Try.prog w base sp held fuel 23 [.slice a len cap] = some x) :
    ∃ xs, RdT 2 CreditOpC CreditOpOk w a xs ∧ len = xs.length ∧ xs.length ≤ cap ∧ cap ≤ 9223372036854775807 ∧ (a = none → cap = 0) :=
  open_T Try.underlying23 (by kernel_rfl) (by omega) ⟨0, 0⟩ creditOp_cells h
end Go.Proofs.Ytgddlamfjjdlfaa
