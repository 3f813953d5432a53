/-
  The script of LossOnce and LossPlays: a slice of structs with a packet and ranges inside, opened.
-/
import Derived.Test.YtefhbiocddgijaaOpenFrame
namespace Go.Proofs.Ytefhbiocddgijaa
open Go.ChangeShapes Go.WideShapes Go.ChangeAt Go.RowKit
set_option linter.unusedVariables false
/-- A packet of the reference. -/
structure RPk where
  nu : Int
  se : Int
  si : Int
  aq : Bool
  go : Bool
def RPkC (x : RPk) : List Value := [.int .u64 x.nu, .int .u64 x.se, .int .i64 x.si, .bool x.aq, .bool x.go]
def RPkOk (x : RPk) : Prop := (Lit.int .u64 x.nu).wf = true ∧ (Lit.int .u64 x.se).wf = true ∧ (Lit.int .i64 x.si).wf = true
structure LossOp where
  what : Int
  p : RPk
  rA : Option Addr
  rc : Nat
  r : List (Int × Int)
  now : Int
  wait : Int
def LossOpC (x : LossOp) : List Value := [.int .u8 x.what, .int .u64 x.p.nu, .int .u64 x.p.se, .int .i64 x.p.si, .bool x.p.aq, .bool x.p.go, .slice x.rA x.r.length x.rc, .int .u64 x.now, .int .u64 x.wait]
def LossOpOk (w : World) (x : LossOp) : Prop := (Lit.int .u8 x.what).wf = true ∧ RPkOk x.p ∧ SlG w x.rA x.rc x.r ∧ (Lit.int .u64 x.now).wf = true ∧ (Lit.int .u64 x.wait).wf = true
theorem list5 {α : Type} : ∀ (l : List α), l.length = 5 → ∃ a0 a1 a2 a3 a4, l = [a0, a1, a2, a3, a4]
  | [a0, a1, a2, a3, a4], _ => ⟨a0, a1, a2, a3, a4, rfl⟩
theorem list9o {α : Type} : ∀ (l : List α), l.length = 9 → ∃ a b c d e f g h i, l = [a, b, c, d, e, f, g, h, i]
  | [a, b, c, d, e, f, g, h, i], _ => ⟨a, b, c, d, e, f, g, h, i, rfl⟩
theorem rpk_cells {H : Type} {enc : TypeId × Value → H} {w : World} {base : Nat} {sp : Nat → Bool} {held : Bool} {cs : List Value} {fuel : Nat} {y : DataW H × List MemPlace}
    (h : DataW.trod enc Try.prog w base sp held fuel 32 cs = some y) : ∃ x : RPk, cs = RPkC x ∧ RPkOk x := by
  obtain ⟨xs, m, _, _, hl, hn, hel⟩ := DataW.trod_struct Try.underlying32 h
  have hc : Try.prog.cellsOf 32 = 5 := by kernel_rfl
  obtain ⟨u0, u1, u2, u3, u4, rfl⟩ := list5 cs (by rw [hl, hc])
  obtain ⟨y0, y1, y2, y3, y4, rfl⟩ := list5 xs hn
  have k_uint64 : Try.prog.cellsOf 28 = 1 := by kernel_rfl
  have k_int : Try.prog.cellsOf 3 = 1 := by kernel_rfl
  have k_bool : Try.prog.cellsOf 4 = 1 := by kernel_rfl
  have g0 : DataW.trod enc Try.prog w base sp held m 28 [u0] = some y0 := by
    have h : DataW.trod enc Try.prog w base sp held m 28 ((([u0, u1, u2, u3, u4] : List Value).drop 0).take (Try.prog.cellsOf 28)) = some y0 := hel 0 _ rfl
    rw [k_uint64] at h
    exact h
  have g1 : DataW.trod enc Try.prog w base sp held m 28 [u1] = some y1 := by
    have h : DataW.trod enc Try.prog w base sp held m 28 ((([u0, u1, u2, u3, u4] : List Value).drop 1).take (Try.prog.cellsOf 28)) = some y1 := hel 1 _ rfl
    rw [k_uint64] at h
    exact h
  have g2 : DataW.trod enc Try.prog w base sp held m 3 [u2] = some y2 := by
    have h : DataW.trod enc Try.prog w base sp held m 3 ((([u0, u1, u2, u3, u4] : List Value).drop 2).take (Try.prog.cellsOf 3)) = some y2 := hel 2 _ rfl
    rw [k_int] at h
    exact h
  have g3 : DataW.trod enc Try.prog w base sp held m 4 [u3] = some y3 := by
    have h : DataW.trod enc Try.prog w base sp held m 4 ((([u0, u1, u2, u3, u4] : List Value).drop 3).take (Try.prog.cellsOf 4)) = some y3 := hel 3 _ rfl
    rw [k_bool] at h
    exact h
  have g4 : DataW.trod enc Try.prog w base sp held m 4 [u4] = some y4 := by
    have h : DataW.trod enc Try.prog w base sp held m 4 ((([u0, u1, u2, u3, u4] : List Value).drop 4).take (Try.prog.cellsOf 4)) = some y4 := hel 4 _ rfl
    rw [k_bool] at h
    exact h
  clear hel
  obtain ⟨a0, rfl, w0⟩ := int_of_trod Try.underlying28 g0
  obtain ⟨a1, rfl, w1⟩ := int_of_trod Try.underlying28 g1
  obtain ⟨a2, rfl, w2⟩ := int_of_trod Try.underlying3 g2
  obtain ⟨a3, rfl⟩ := bool_of_trod Try.underlying4 g3
  obtain ⟨a4, rfl⟩ := bool_of_trod Try.underlying4 g4
  exact ⟨⟨a0, a1, a2, a3, a4⟩, rfl, w0, w1, w2⟩
theorem lossOp_cells {H : Type} {enc : TypeId × Value → H} {w : World} {base : Nat} {sp : Nat → Bool} {held : Bool} {cs : List Value} {fuel : Nat} {y : DataW H × List MemPlace}
    (h : DataW.trod enc Try.prog w base sp held fuel 35 cs = some y) : ∃ x : LossOp, cs = LossOpC x ∧ (LossOpOk w) x := by
  obtain ⟨xs, m, _, _, hl, hn, hel⟩ := DataW.trod_struct Try.underlying35 h
  have hc : Try.prog.cellsOf 35 = 9 := by kernel_rfl
  obtain ⟨u0, u1, u2, u3, u4, u5, u6, u7, u8, rfl⟩ := list9o cs (by rw [hl, hc])
  obtain ⟨y0, y1, y2, y3, y4, rfl⟩ := list5 xs hn
  have k_uint8 : Try.prog.cellsOf 5 = 1 := by kernel_rfl
  have k_colonnaderef09_Packet : Try.prog.cellsOf 32 = 5 := by kernel_rfl
  have k_sl_api_Range : Try.prog.cellsOf 33 = 1 := by kernel_rfl
  have k_uint64 : Try.prog.cellsOf 28 = 1 := by kernel_rfl
  have g0 : DataW.trod enc Try.prog w base sp held m 5 [u0] = some y0 := by
    have h : DataW.trod enc Try.prog w base sp held m 5 ((([u0, u1, u2, u3, u4, u5, u6, u7, u8] : List Value).drop 0).take (Try.prog.cellsOf 5)) = some y0 := hel 0 _ rfl
    rw [k_uint8] at h
    exact h
  have g1 : DataW.trod enc Try.prog w base sp held m 32 [u1, u2, u3, u4, u5] = some y1 := by
    have h : DataW.trod enc Try.prog w base sp held m 32 ((([u0, u1, u2, u3, u4, u5, u6, u7, u8] : List Value).drop 1).take (Try.prog.cellsOf 32)) = some y1 := hel 1 _ rfl
    rw [k_colonnaderef09_Packet] at h
    exact h
  have g2 : DataW.trod enc Try.prog w base sp held m 33 [u6] = some y2 := by
    have h : DataW.trod enc Try.prog w base sp held m 33 ((([u0, u1, u2, u3, u4, u5, u6, u7, u8] : List Value).drop 6).take (Try.prog.cellsOf 33)) = some y2 := hel 2 _ rfl
    rw [k_sl_api_Range] at h
    exact h
  have g3 : DataW.trod enc Try.prog w base sp held m 28 [u7] = some y3 := by
    have h : DataW.trod enc Try.prog w base sp held m 28 ((([u0, u1, u2, u3, u4, u5, u6, u7, u8] : List Value).drop 7).take (Try.prog.cellsOf 28)) = some y3 := hel 3 _ rfl
    rw [k_uint64] at h
    exact h
  have g4 : DataW.trod enc Try.prog w base sp held m 28 [u8] = some y4 := by
    have h : DataW.trod enc Try.prog w base sp held m 28 ((([u0, u1, u2, u3, u4, u5, u6, u7, u8] : List Value).drop 8).take (Try.prog.cellsOf 28)) = some y4 := hel 4 _ rfl
    rw [k_uint64] at h
    exact h
  clear hel
  obtain ⟨a0, rfl, w0⟩ := int_of_trod Try.underlying5 g0
  obtain ⟨p, e1, q1⟩ := rpk_cells g1
  obtain ⟨t, e2, s2⟩ := open_rgv g2
  obtain ⟨a3, rfl, w3⟩ := int_of_trod Try.underlying28 g3
  obtain ⟨a4, rfl, w4⟩ := int_of_trod Try.underlying28 g4
  subst e2
  unfold RPkC at e1
  injection e1 with b1 e1; injection e1 with b2 e1; injection e1 with b3 e1; injection e1 with b4 e1; injection e1 with b5 e1
  subst b1 b2 b3 b4 b5
  exact ⟨⟨a0, p, t.1, t.2.1, t.2.2, a3, a4⟩, rfl, w0, q1, s2, w3, w4⟩
theorem open_lossOps {H : Type} {enc : TypeId × Value → H} {w : World} {base : Nat} {sp : Nat → Bool} {held : Bool} {a : Option Addr} {len cap fuel : Nat} {x : DataW H × List MemPlace}
    (h : DataW.trod enc Try.prog w base sp held fuel 22 [.slice a len cap] = some x) :
    ∃ xs, RdT 9 LossOpC (LossOpOk w) w a xs ∧ len = xs.length ∧ xs.length ≤ cap ∧ cap ≤ 9223372036854775807 ∧ (a = none → cap = 0) :=
  open_T Try.underlying22 (by kernel_rfl) (by omega) ⟨0, ⟨0, 0, 0, false, false⟩, none, 0, [], 0, 0⟩ lossOp_cells h
end Go.Proofs.Ytefhbiocddgijaa
