/-
  A slice of structs colonnadelaw10.Op, opened (made by structs.py).
-/
import Derived.Test.YtdafeokjedmnkaaDoorOpenT
namespace Go.Proofs.YtdafeokjedmnkaaDoor
open Go.ChangeShapes Go.WideShapes Go.ChangeAt Go.RowKit
set_option linter.unusedVariables false
structure QuiltOp where
  what : Int
  off : Int
  pA : Option Addr
  pc : Nat
  p : List Int
  end_ : Bool
  n : Int
def QuiltOpC (x : QuiltOp) : List Value := [.int .u8 x.what, .int .u64 x.off, .slice x.pA x.p.length x.pc, .bool x.end_, .int .i64 x.n]
def QuiltOpOk (w : World) (x : QuiltOp) : Prop := (Lit.int .u8 x.what).wf = true ∧ (Lit.int .u64 x.off).wf = true ∧ (Sl w x.pA x.pc x.p ∧ Bytes x.p) ∧ (Lit.int .i64 x.n).wf = true ∧ True
theorem quiltOp_list {α : Type} : ∀ (l : List α), l.length = 5 → ∃ a0 a1 a2 a3 a4, l = [a0, a1, a2, a3, a4]
  | [a0, a1, a2, a3, a4], _ => ⟨a0, a1, a2, a3, a4, rfl⟩
theorem quiltOp_cells {H : Type} {enc : TypeId × Value → H} {w : World} {base : Nat} {sp : Nat → Bool} {held : Bool} {cs : List Value} {fuel : Nat} {y : DataW H × List MemPlace}
    (h : DataW.trod enc Tryd.prog w base sp held fuel 31 cs = some y) : ∃ x : QuiltOp, cs = QuiltOpC x ∧ (QuiltOpOk w) x := by
  obtain ⟨xs, m, _, _, hl, hn, hel⟩ := DataW.trod_struct Tryd.underlying31 h
  have hc : Tryd.prog.cellsOf 31 = 5 := by kernel_rfl
  obtain ⟨u0, u1, u2, u3, u4, rfl⟩ := quiltOp_list cs (by rw [hl, hc])
  obtain ⟨y0, y1, y2, y3, y4, rfl⟩ := quiltOp_list xs hn
  have k_uint8 : Tryd.prog.cellsOf 5 = 1 := by kernel_rfl
  have k_uint64 : Tryd.prog.cellsOf 28 = 1 := by kernel_rfl
  have k_sl_uint8 : Tryd.prog.cellsOf 29 = 1 := by kernel_rfl
  have k_bool : Tryd.prog.cellsOf 4 = 1 := by kernel_rfl
  have k_int : Tryd.prog.cellsOf 3 = 1 := by kernel_rfl
  have g0 : DataW.trod enc Tryd.prog w base sp held m 5 [u0] = some y0 := by
    have h : DataW.trod enc Tryd.prog w base sp held m 5 ((([u0, u1, u2, u3, u4] : List Value).drop 0).take (Tryd.prog.cellsOf 5)) = some y0 := hel 0 _ rfl
    rw [k_uint8] at h
    exact h
  have g1 : DataW.trod enc Tryd.prog w base sp held m 28 [u1] = some y1 := by
    have h : DataW.trod enc Tryd.prog w base sp held m 28 ((([u0, u1, u2, u3, u4] : List Value).drop 1).take (Tryd.prog.cellsOf 28)) = some y1 := hel 1 _ rfl
    rw [k_uint64] at h
    exact h
  have g2 : DataW.trod enc Tryd.prog w base sp held m 29 [u2] = some y2 := by
    have h : DataW.trod enc Tryd.prog w base sp held m 29 ((([u0, u1, u2, u3, u4] : List Value).drop 2).take (Tryd.prog.cellsOf 29)) = some y2 := hel 2 _ rfl
    rw [k_sl_uint8] at h
    exact h
  have g3 : DataW.trod enc Tryd.prog w base sp held m 4 [u3] = some y3 := by
    have h : DataW.trod enc Tryd.prog w base sp held m 4 ((([u0, u1, u2, u3, u4] : List Value).drop 3).take (Tryd.prog.cellsOf 4)) = some y3 := hel 3 _ rfl
    rw [k_bool] at h
    exact h
  have g4 : DataW.trod enc Tryd.prog w base sp held m 3 [u4] = some y4 := by
    have h : DataW.trod enc Tryd.prog w base sp held m 3 ((([u0, u1, u2, u3, u4] : List Value).drop 4).take (Tryd.prog.cellsOf 3)) = some y4 := hel 4 _ rfl
    rw [k_int] at h
    exact h
  clear hel
  obtain ⟨a0, rfl, w0⟩ := int_of_trod Tryd.underlying5 g0
  obtain ⟨a1, rfl, w1⟩ := int_of_trod Tryd.underlying28 g1
  obtain ⟨a2, e2, s2, q2⟩ := open_u8v g2
  obtain ⟨a3, rfl⟩ := bool_of_trod Tryd.underlying4 g3
  obtain ⟨a4, rfl, w4⟩ := int_of_trod Tryd.underlying3 g4
  subst e2
  exact ⟨⟨a0, a1, a2.1, a2.2.1, a2.2.2, a3, a4⟩, rfl, w0, w1, ⟨s2, q2⟩, w4, trivial⟩
theorem open_quiltOps {H : Type} {enc : TypeId × Value → H} {w : World} {base : Nat} {sp : Nat → Bool} {held : Bool} {a : Option Addr} {len cap fuel : Nat} {x : DataW H × List MemPlace}
    (h : DataW.trod enc Tryd.prog w base sp held fuel 22 [.slice a len cap] = some x) :
    ∃ xs, RdT 5 QuiltOpC (QuiltOpOk w) w a xs ∧ len = xs.length ∧ xs.length ≤ cap ∧ cap ≤ 9223372036854775807 ∧ (a = none → cap = 0) :=
  open_T Tryd.underlying22 (by kernel_rfl) (by omega) ⟨0, 0, none, 0, [], false, 0⟩ quiltOp_cells h
end Go.Proofs.YtdafeokjedmnkaaDoor
