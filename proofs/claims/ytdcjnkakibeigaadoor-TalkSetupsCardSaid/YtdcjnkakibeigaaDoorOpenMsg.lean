/-
  A message by value, a place, a slice of messages: opened (made by mkOpenMsg.py).
-/
import Derived.Test.YtdcjnkakibeigaaDoorWordB
import Derived.Test.YtdcjnkakibeigaaDoorOpenT
import Derived.Test.YtdcjnkakibeigaaDoorInts
namespace Go.Proofs.YtdcjnkakibeigaaDoor
set_option maxRecDepth 100000
open Go.ChangeShapes Go.WideShapes Go.ChangeAt Go.RowKit
set_option linter.unusedVariables false
/-- A slice of numbers, as it came in. -/
structure SlU (w : World) (A : Option Addr) (c : Nat) (l : List Int) : Prop where
  rd : RdI .u64 w A l
  ok : WF .u64 l
  le : l.length ≤ c
  max : c ≤ 9223372036854775807
  nil : A = none → c = 0
def wf64W (n : Int) : Prop := 0 ≤ n ∧ n < 18446744073709551616
/-- A message that came in, and where its slices stand. -/
structure RM where
  m : MV
  nA : Option Addr
  nc : Nat
  rA : Option Addr
  rc : Nat
  vA : Option Addr
  vc : Nat
def RM.val (x : RM) : Array Value := mvC x.m x.nA x.nc x.rA x.rc x.vA x.vc
def RMC (x : RM) : List Value := x.val.toList
structure RMOk (w : World) (x : RM) : Prop where
  kind : wf64W x.m.kind
  id : wf64W x.m.id
  alias_ : wf64W x.m.alias_
  sg : wf64W x.m.sg
  so : wf64W x.m.so
  eg : wf64W x.m.eg
  eo : wf64W x.m.eo
  code : wf64W x.m.code
  n : wf64W x.m.n
  ver : wf64W x.m.ver
  prio : 0 ≤ x.m.prio ∧ x.m.prio < 256
  ord : 0 ≤ x.m.ord ∧ x.m.ord < 256
  nm : Sl w x.nA x.nc x.m.name ∧ Bytes x.m.name
  rs : Sl w x.rA x.rc x.m.reason ∧ Bytes x.m.reason
  vs : SlU w x.vA x.vc x.m.vers
theorem place_cells {H : Type} {enc : TypeId × Value → H} {w : World} {base : Nat} {sp : Nat → Bool} {held : Bool} {cs : List Value} {fuel : Nat} {y : DataW H × List MemPlace}
    (h : DataW.trod enc Tryd.prog w base sp held fuel 25 cs = some y) : ∃ a b : Int, cs = [.int .u64 a, .int .u64 b] ∧ wf64W a ∧ wf64W b := by
  obtain ⟨xs, m, _, _, hl, hn, hel⟩ := DataW.trod_struct Tryd.underlying25 h
  have hc : Tryd.prog.cellsOf 25 = 2 := by kernel_rfl
  have h1 : Tryd.prog.cellsOf 22 = 1 := by kernel_rfl
  obtain ⟨u0, u1, rfl⟩ := list2 cs (by rw [hl, hc])
  obtain ⟨y0, y1, rfl⟩ := list2 xs hn
  have g0 : DataW.trod enc Tryd.prog w base sp held m 22 [u0] = some y0 := by
    have h : DataW.trod enc Tryd.prog w base sp held m 22 ((([u0, u1] : List Value).drop 0).take (Tryd.prog.cellsOf 22)) = some y0 := hel 0 _ rfl
    rw [h1] at h
    exact h
  have g1 : DataW.trod enc Tryd.prog w base sp held m 22 [u1] = some y1 := by
    have h : DataW.trod enc Tryd.prog w base sp held m 22 ((([u0, u1] : List Value).drop 1).take (Tryd.prog.cellsOf 22)) = some y1 := hel 1 _ rfl
    rw [h1] at h
    exact h
  obtain ⟨a0, rfl, w0⟩ := int_of_trod Tryd.underlying22 g0
  obtain ⟨a1, rfl, w1⟩ := int_of_trod Tryd.underlying22 g1
  exact ⟨a0, a1, rfl, wf_u64 w0, wf_u64 w1⟩
theorem open_place {H : Type} {enc : TypeId × Value → H} {w : World} {base b0 : Nat} {r : Reach} {sp : Nat → Bool} {held : Bool} {v : Value} {d : DataW H} {p : List MemPlace}
    (hv : Value.okWide Tryd.prog w r b0 25 v) (h : DataW.Trod enc Tryd.prog w base sp held 25 v d p) :
    ∃ a b : Int, v = .agg #[.int .u64 a, .int .u64 b] ∧ wf64W a ∧ wf64W b := by
  obtain ⟨cs, rfl, hsz⟩ := okWide_struct Tryd.underlying25 hv
  obtain ⟨fuel, hf⟩ := h
  obtain ⟨a, b, e, h1, h2⟩ := place_cells hf
  refine ⟨a, b, ?_, h1, h2⟩
  rw [← Array.toArray_toList (xs := cs), show cs.toList = _ from e]
theorem open_u64v {H : Type} {enc : TypeId × Value → H} {w : World} {base : Nat} {sp : Nat → Bool} {held : Bool} {v : Value} {fuel : Nat} {x : DataW H × List MemPlace}
    (h : DataW.trod enc Tryd.prog w base sp held fuel 26 [v] = some x) : ∃ t : Option Addr × Nat × List Int, v = .slice t.1 t.2.2.length t.2.1 ∧ SlU w t.1 t.2.1 t.2.2 := by
  have hv : ∃ a len cap, v = .slice a len cap := by
    rcases Deep.open_slice Tryd.underlying26 h with ⟨hcs, _⟩ | ⟨ad, l, c, m, n', D, Pl, hcs, _⟩
    · exact ⟨none, 0, 0, by simpa using hcs⟩
    · exact ⟨some ad, l, c, by simpa using hcs⟩
  obtain ⟨a, len, cap, rfl⟩ := hv
  obtain ⟨l, h1, h2, rfl, h4, h5, h6⟩ := open_intsK Tryd.underlying26 Tryd.underlying22 (by kernel_rfl) h
  exact ⟨(a, cap, l), rfl, ⟨h1, h2, h4, h5, h6⟩⟩

theorem list16 {α : Type} : ∀ (l : List α), l.length = 16 → ∃ a0 a1 a2 a3 a4 a5 a6 a7 a8 a9 a10 a11 a12 a13 a14 a15, l = [a0, a1, a2, a3, a4, a5, a6, a7, a8, a9, a10, a11, a12, a13, a14, a15]
  | [a0, a1, a2, a3, a4, a5, a6, a7, a8, a9, a10, a11, a12, a13, a14, a15], _ => ⟨a0, a1, a2, a3, a4, a5, a6, a7, a8, a9, a10, a11, a12, a13, a14, a15, rfl⟩
theorem list14 {α : Type} : ∀ (l : List α), l.length = 14 → ∃ a0 a1 a2 a3 a4 a5 a6 a7 a8 a9 a10 a11 a12 a13, l = [a0, a1, a2, a3, a4, a5, a6, a7, a8, a9, a10, a11, a12, a13]
  | [a0, a1, a2, a3, a4, a5, a6, a7, a8, a9, a10, a11, a12, a13], _ => ⟨a0, a1, a2, a3, a4, a5, a6, a7, a8, a9, a10, a11, a12, a13, rfl⟩
set_option maxHeartbeats 1600000 in
theorem msg_cells {H : Type} {enc : TypeId × Value → H} {w : World} {base : Nat} {sp : Nat → Bool} {held : Bool} {cs : List Value} {fuel : Nat} {y : DataW H × List MemPlace}
    (h : DataW.trod enc Tryd.prog w base sp held fuel 28 cs = some y) : ∃ x : RM, cs = RMC x ∧ RMOk w x := by
  obtain ⟨xs, m, _, _, hl, hn, hel⟩ := DataW.trod_struct Tryd.underlying28 h
  have hc : Tryd.prog.cellsOf 28 = 16 := by kernel_rfl
  obtain ⟨u0, u1, u2, u3, u4, u5, u6, u7, u8, u9, u10, u11, u12, u13, u14, u15, rfl⟩ := list16 cs (by rw [hl, hc])
  obtain ⟨y0, y1, y2, y3, y4, y5, y6, y7, y8, y9, y10, y11, y12, y13, rfl⟩ := list14 xs hn
  have k0 : Tryd.prog.cellsOf 22 = 1 := by kernel_rfl
  have k1 : Tryd.prog.cellsOf 23 = 1 := by kernel_rfl
  have k2 : Tryd.prog.cellsOf 5 = 1 := by kernel_rfl
  have k3 : Tryd.prog.cellsOf 25 = 2 := by kernel_rfl
  have k4 : Tryd.prog.cellsOf 4 = 1 := by kernel_rfl
  have k5 : Tryd.prog.cellsOf 26 = 1 := by kernel_rfl
  have g0 : DataW.trod enc Tryd.prog w base sp held m 22 [u0] = some y0 := by
    have h : DataW.trod enc Tryd.prog w base sp held m 22 ((([u0, u1, u2, u3, u4, u5, u6, u7, u8, u9, u10, u11, u12, u13, u14, u15] : List Value).drop 0).take (Tryd.prog.cellsOf 22)) = some y0 := hel 0 _ rfl
    rw [k0] at h
    exact h
  have g1 : DataW.trod enc Tryd.prog w base sp held m 22 [u1] = some y1 := by
    have h : DataW.trod enc Tryd.prog w base sp held m 22 ((([u0, u1, u2, u3, u4, u5, u6, u7, u8, u9, u10, u11, u12, u13, u14, u15] : List Value).drop 1).take (Tryd.prog.cellsOf 22)) = some y1 := hel 1 _ rfl
    rw [k0] at h
    exact h
  have g2 : DataW.trod enc Tryd.prog w base sp held m 22 [u2] = some y2 := by
    have h : DataW.trod enc Tryd.prog w base sp held m 22 ((([u0, u1, u2, u3, u4, u5, u6, u7, u8, u9, u10, u11, u12, u13, u14, u15] : List Value).drop 2).take (Tryd.prog.cellsOf 22)) = some y2 := hel 2 _ rfl
    rw [k0] at h
    exact h
  have g3 : DataW.trod enc Tryd.prog w base sp held m 23 [u3] = some y3 := by
    have h : DataW.trod enc Tryd.prog w base sp held m 23 ((([u0, u1, u2, u3, u4, u5, u6, u7, u8, u9, u10, u11, u12, u13, u14, u15] : List Value).drop 3).take (Tryd.prog.cellsOf 23)) = some y3 := hel 3 _ rfl
    rw [k1] at h
    exact h
  have g4 : DataW.trod enc Tryd.prog w base sp held m 5 [u4] = some y4 := by
    have h : DataW.trod enc Tryd.prog w base sp held m 5 ((([u0, u1, u2, u3, u4, u5, u6, u7, u8, u9, u10, u11, u12, u13, u14, u15] : List Value).drop 4).take (Tryd.prog.cellsOf 5)) = some y4 := hel 4 _ rfl
    rw [k2] at h
    exact h
  have g5 : DataW.trod enc Tryd.prog w base sp held m 5 [u5] = some y5 := by
    have h : DataW.trod enc Tryd.prog w base sp held m 5 ((([u0, u1, u2, u3, u4, u5, u6, u7, u8, u9, u10, u11, u12, u13, u14, u15] : List Value).drop 5).take (Tryd.prog.cellsOf 5)) = some y5 := hel 5 _ rfl
    rw [k2] at h
    exact h
  have g6 : DataW.trod enc Tryd.prog w base sp held m 25 [u6, u7] = some y6 := by
    have h : DataW.trod enc Tryd.prog w base sp held m 25 ((([u0, u1, u2, u3, u4, u5, u6, u7, u8, u9, u10, u11, u12, u13, u14, u15] : List Value).drop 6).take (Tryd.prog.cellsOf 25)) = some y6 := hel 6 _ rfl
    rw [k3] at h
    exact h
  have g7 : DataW.trod enc Tryd.prog w base sp held m 25 [u8, u9] = some y7 := by
    have h : DataW.trod enc Tryd.prog w base sp held m 25 ((([u0, u1, u2, u3, u4, u5, u6, u7, u8, u9, u10, u11, u12, u13, u14, u15] : List Value).drop 8).take (Tryd.prog.cellsOf 25)) = some y7 := hel 7 _ rfl
    rw [k3] at h
    exact h
  have g8 : DataW.trod enc Tryd.prog w base sp held m 4 [u10] = some y8 := by
    have h : DataW.trod enc Tryd.prog w base sp held m 4 ((([u0, u1, u2, u3, u4, u5, u6, u7, u8, u9, u10, u11, u12, u13, u14, u15] : List Value).drop 10).take (Tryd.prog.cellsOf 4)) = some y8 := hel 8 _ rfl
    rw [k4] at h
    exact h
  have g9 : DataW.trod enc Tryd.prog w base sp held m 22 [u11] = some y9 := by
    have h : DataW.trod enc Tryd.prog w base sp held m 22 ((([u0, u1, u2, u3, u4, u5, u6, u7, u8, u9, u10, u11, u12, u13, u14, u15] : List Value).drop 11).take (Tryd.prog.cellsOf 22)) = some y9 := hel 9 _ rfl
    rw [k0] at h
    exact h
  have g10 : DataW.trod enc Tryd.prog w base sp held m 23 [u12] = some y10 := by
    have h : DataW.trod enc Tryd.prog w base sp held m 23 ((([u0, u1, u2, u3, u4, u5, u6, u7, u8, u9, u10, u11, u12, u13, u14, u15] : List Value).drop 12).take (Tryd.prog.cellsOf 23)) = some y10 := hel 10 _ rfl
    rw [k1] at h
    exact h
  have g11 : DataW.trod enc Tryd.prog w base sp held m 22 [u13] = some y11 := by
    have h : DataW.trod enc Tryd.prog w base sp held m 22 ((([u0, u1, u2, u3, u4, u5, u6, u7, u8, u9, u10, u11, u12, u13, u14, u15] : List Value).drop 13).take (Tryd.prog.cellsOf 22)) = some y11 := hel 11 _ rfl
    rw [k0] at h
    exact h
  have g12 : DataW.trod enc Tryd.prog w base sp held m 22 [u14] = some y12 := by
    have h : DataW.trod enc Tryd.prog w base sp held m 22 ((([u0, u1, u2, u3, u4, u5, u6, u7, u8, u9, u10, u11, u12, u13, u14, u15] : List Value).drop 14).take (Tryd.prog.cellsOf 22)) = some y12 := hel 12 _ rfl
    rw [k0] at h
    exact h
  have g13 : DataW.trod enc Tryd.prog w base sp held m 26 [u15] = some y13 := by
    have h : DataW.trod enc Tryd.prog w base sp held m 26 ((([u0, u1, u2, u3, u4, u5, u6, u7, u8, u9, u10, u11, u12, u13, u14, u15] : List Value).drop 15).take (Tryd.prog.cellsOf 26)) = some y13 := hel 13 _ rfl
    rw [k5] at h
    exact h
  clear hel
  obtain ⟨a0, e0, w0⟩ := int_of_trod Tryd.underlying22 g0
  obtain ⟨a1, e1, w1⟩ := int_of_trod Tryd.underlying22 g1
  obtain ⟨a2, e2, w2⟩ := int_of_trod Tryd.underlying22 g2
  obtain ⟨t3, e3, s3, q3⟩ := open_u8v g3
  obtain ⟨a4, e4, w4⟩ := int_of_trod Tryd.underlying5 g4
  obtain ⟨a5, e5, w5⟩ := int_of_trod Tryd.underlying5 g5
  obtain ⟨a6, b6, e6, w6, x6⟩ := place_cells g6
  obtain ⟨e6, f6⟩ := List.cons.inj e6
  obtain ⟨f6, _⟩ := List.cons.inj f6
  obtain ⟨a7, b7, e7, w7, x7⟩ := place_cells g7
  obtain ⟨e7, f7⟩ := List.cons.inj e7
  obtain ⟨f7, _⟩ := List.cons.inj f7
  obtain ⟨a8, e8⟩ := bool_of_trod Tryd.underlying4 g8
  obtain ⟨a9, e9, w9⟩ := int_of_trod Tryd.underlying22 g9
  obtain ⟨t10, e10, s10, q10⟩ := open_u8v g10
  obtain ⟨a11, e11, w11⟩ := int_of_trod Tryd.underlying22 g11
  obtain ⟨a12, e12, w12⟩ := int_of_trod Tryd.underlying22 g12
  obtain ⟨t13, e13, s13⟩ := open_u64v g13
  subst e0
  subst e1
  subst e2
  subst e3
  subst e4
  subst e5
  subst e6
  subst f6
  subst e7
  subst f7
  subst e8
  subst e9
  subst e10
  subst e11
  subst e12
  subst e13
  exact ⟨⟨⟨a0, a1, a2, t3.2.2, a4, a5, a6, b6, a7, b7, a8, a9, t10.2.2, a11, a12, t13.2.2⟩, t3.1, t3.2.1, t10.1, t10.2.1, t13.1, t13.2.1⟩, rfl,
    ⟨wf_u64 w0, wf_u64 w1, wf_u64 w2, w6, x6, w7, x7, wf_u64 w9, wf_u64 w11, wf_u64 w12, wf_u8 w4, wf_u8 w5, ⟨s3, q3⟩, ⟨s10, q10⟩, s13⟩⟩
theorem open_msg {H : Type} {enc : TypeId × Value → H} {w : World} {base b0 : Nat} {r : Reach} {sp : Nat → Bool} {held : Bool} {v : Value} {d : DataW H} {p : List MemPlace}
    (hv : Value.okWide Tryd.prog w r b0 28 v) (h : DataW.Trod enc Tryd.prog w base sp held 28 v d p) :
    ∃ x : RM, v = .agg x.val ∧ RMOk w x := by
  obtain ⟨cs, rfl, hsz⟩ := okWide_struct Tryd.underlying28 hv
  obtain ⟨fuel, hf⟩ := h
  obtain ⟨x, e, h1⟩ := msg_cells hf
  refine ⟨x, ?_, h1⟩
  rw [← Array.toArray_toList (xs := cs), show cs.toList = _ from e]
  unfold RMC
  rw [Array.toArray_toList]
theorem open_msgs {H : Type} {enc : TypeId × Value → H} {w : World} {base : Nat} {sp : Nat → Bool} {held : Bool} {a : Option Addr} {len cap fuel : Nat} {x : DataW H × List MemPlace}
    (h : DataW.trod enc Tryd.prog w base sp held fuel 49 [.slice a len cap] = some x) :
    ∃ xs, RdT 16 RMC (RMOk w) w a xs ∧ len = xs.length ∧ xs.length ≤ cap ∧ cap ≤ 9223372036854775807 ∧ (a = none → cap = 0) :=
  open_T Tryd.underlying49 (by kernel_rfl) (by omega) ⟨⟨0, 0, 0, [], 0, 0, 0, 0, 0, 0, false, 0, [], 0, 0, []⟩, none, 0, none, 0, none, 0⟩ msg_cells h
end Go.Proofs.YtdcjnkakibeigaaDoor
