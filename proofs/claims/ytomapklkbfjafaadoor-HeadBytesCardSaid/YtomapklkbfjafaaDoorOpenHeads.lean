/-
  A slice of heads (five cells each) as an argument, opened.
-/
import Derived.Test.YtomapklkbfjafaaDoorOpenHead
import Derived.Deep.Slices
namespace Go.Proofs.YtomapklkbfjafaaDoor
open Go.ChangeShapes Go.WideShapes Go.ChangeAt Go.RowKit
set_option linter.unusedVariables false

structure HT where
  lg : Bool
  lv : Int
  ph : Bool
  A : Option Addr
  c : Nat
  a : List Int
  B : Option Addr
  d : Nat
  b : List Int
instance : Inhabited HT := ⟨⟨false, 0, false, none, 0, [], none, 0, []⟩⟩
def HC (x : HT) : List Value := [.bool x.lg, .int .i64 x.lv, .bool x.ph, .slice x.A x.a.length x.c, .slice x.B x.b.length x.d]
def HOk (w : World) (x : HT) : Prop := Sl w x.A x.c x.a ∧ Bytes x.a ∧ Sl w x.B x.d x.b ∧ Bytes x.b
theorem HOk.below {w w' : World} {x : HT} (h : HOk w x) (hb : Below w.heap.size w w') : HOk w' x := ⟨h.1.below hb, h.2.1, h.2.2.1.below hb, h.2.2.2⟩
/-- The slice at A reads as these heads. -/
structure RdHs (w : World) (A : Option Addr) (xs : List HT) : Prop where
  row : xs.length = 0 ∨ ∃ b off, A = some ⟨b, off, none⟩ ∧ b < w.heap.size ∧ ∀ i j, i < xs.length → j < 5 → w.cell? ⟨b, off + (i * 5 + j), none⟩ = (xs[i]?.bind fun x => (HC x)[j]?)
  each : ∀ x ∈ xs, HOk w x
theorem RdHs.below {w w' : World} {A : Option Addr} {xs : List HT} (h : RdHs w A xs) (hb : Below w.heap.size w w') : RdHs w' A xs := by
  refine ⟨?_, fun x hx => (h.each x hx).below hb⟩
  rcases h.row with h0 | ⟨b, off, e, hlt, hc⟩
  · exact .inl h0
  · refine .inr ⟨b, off, e, Nat.lt_of_lt_of_le hlt hb.size, fun i j hi hj => ?_⟩
    rw [← hc i j hi hj]
    exact hb.cell (p := ⟨b, off + (i * 5 + j), none⟩) hlt
theorem RdHs.at_ {w : World} {A : Option Addr} {xs : List HT} (h : RdHs w A xs) {i : Nat} (hi : i < xs.length) :
    ∃ b off x, A = some ⟨b, off, none⟩ ∧ b < w.heap.size ∧ xs[i]? = some x ∧ HOk w x ∧ w.cell? ⟨b, off + i * 5, none⟩ = some (.bool x.lg) ∧ w.cell? ⟨b, off + i * 5 + 1, none⟩ = some (.int .i64 x.lv) ∧
      w.cell? ⟨b, off + i * 5 + 2, none⟩ = some (.bool x.ph) ∧ w.cell? ⟨b, off + i * 5 + 3, none⟩ = some (.slice x.A x.a.length x.c) ∧ w.cell? ⟨b, off + i * 5 + 4, none⟩ = some (.slice x.B x.b.length x.d) := by
  rcases h.row with h0 | ⟨b, off, e, hlt, hc⟩
  · omega
  · have hx : xs[i]? = some xs[i] := List.getElem?_eq_getElem hi
    have h5 : ∀ j, j < 5 → w.cell? ⟨b, off + i * 5 + j, none⟩ = (HC xs[i])[j]? := fun j hj => by
      have := hc i j hi hj
      rw [hx] at this
      rw [Nat.add_assoc]
      exact this
    exact ⟨b, off, xs[i], e, hlt, hx, h.each _ (List.getElem_mem hi), h5 0 (by omega), h5 1 (by omega), h5 2 (by omega), h5 3 (by omega), h5 4 (by omega)⟩
theorem head_cells {H : Type} {enc : TypeId × Value → H} {w : World} {base : Nat} {sp : Nat → Bool} {held : Bool} {cs : List Value} {fuel : Nat} {x : DataW H × List MemPlace}
    (hf : DataW.trod enc Tryd.prog w base sp held fuel 24 cs = some x) : ∃ x : HT, cs = HC x ∧ HOk w x := by
  obtain ⟨xs, m, _, _, hl, hn, hel⟩ := DataW.trod_struct Tryd.underlying24 hf
  have hc5 : Tryd.prog.cellsOf 24 = 5 := by kernel_rfl
  have hl5 : cs.length = 5 := by rw [← hc5, ← hl]
  obtain ⟨u0, u1, u2, u3, u4, rfl⟩ := list5 cs hl5
  obtain ⟨y0, y1, y2, y3, y4, rfl⟩ := list5 xs hn
  have kb : Tryd.prog.cellsOf 4 = 1 := by kernel_rfl
  have ki : Tryd.prog.cellsOf 3 = 1 := by kernel_rfl
  have ks : Tryd.prog.cellsOf 22 = 1 := by kernel_rfl
  have g0 : DataW.trod enc Tryd.prog w base sp held m 4 [u0] = some y0 := by
    have h : DataW.trod enc Tryd.prog w base sp held m 4 ((([u0, u1, u2, u3, u4] : List Value).drop 0).take (Tryd.prog.cellsOf 4)) = some y0 := hel 0 _ rfl
    rw [kb] at h
    exact h
  have g1 : DataW.trod enc Tryd.prog w base sp held m 3 [u1] = some y1 := by
    have h : DataW.trod enc Tryd.prog w base sp held m 3 ((([u0, u1, u2, u3, u4] : List Value).drop 1).take (Tryd.prog.cellsOf 3)) = some y1 := hel 1 _ rfl
    rw [ki] at h
    exact h
  have g2 : DataW.trod enc Tryd.prog w base sp held m 4 [u2] = some y2 := by
    have h : DataW.trod enc Tryd.prog w base sp held m 4 ((([u0, u1, u2, u3, u4] : List Value).drop 2).take (Tryd.prog.cellsOf 4)) = some y2 := hel 2 _ rfl
    rw [kb] at h
    exact h
  have g3 : DataW.trod enc Tryd.prog w base sp held m 22 [u3] = some y3 := by
    have h : DataW.trod enc Tryd.prog w base sp held m 22 ((([u0, u1, u2, u3, u4] : List Value).drop 3).take (Tryd.prog.cellsOf 22)) = some y3 := hel 3 _ rfl
    rw [ks] at h
    exact h
  have g4 : DataW.trod enc Tryd.prog w base sp held m 22 [u4] = some y4 := by
    have h : DataW.trod enc Tryd.prog w base sp held m 22 ((([u0, u1, u2, u3, u4] : List Value).drop 4).take (Tryd.prog.cellsOf 22)) = some y4 := hel 4 _ rfl
    rw [ks] at h
    exact h
  clear hel
  obtain ⟨b0, e0, _⟩ := DataW.trod_bool Tryd.underlying4 g0
  obtain ⟨i1, e1, _, _⟩ := DataW.trod_int Tryd.underlying3 g1
  obtain ⟨b2, e2, _⟩ := DataW.trod_bool Tryd.underlying4 g2
  obtain ⟨t3, e3, s3, q3⟩ := open_u8v g3
  obtain ⟨t4, e4, s4, q4⟩ := open_u8v g4
  injection e0 with e0
  injection e1 with e1
  injection e2 with e2
  subst e0 e1 e2 e3 e4
  exact ⟨⟨b0, i1, b2, t3.1, t3.2.1, t3.2.2, t4.1, t4.2.1, t4.2.2⟩, rfl, s3, q3, s4, q4⟩
end Go.Proofs.YtomapklkbfjafaaDoor
