/-
  A range, a slice of ranges, a frame by value: opened.
-/
import Derived.Test.YtfimngmpkckcdaaDoorRng
namespace Go.Proofs.YtfimngmpkckcdaaDoor
open Go.ChangeShapes Go.WideShapes Go.ChangeAt Go.RowKit
set_option linter.unusedVariables false

theorem range_cells {H : Type} {enc : TypeId × Value → H} {w : World} {base : Nat} {sp : Nat → Bool} {held : Bool} {cs : List Value} {fuel : Nat} {y : DataW H × List MemPlace}
    (h : DataW.trod enc Tryd.prog w base sp held fuel 39 cs = some y) : ∃ p : Int × Int, cs = PairC p ∧ PairOk p := by
  obtain ⟨xs, m, _, _, hl, hn, hel⟩ := DataW.trod_struct Tryd.underlying39 h
  have hc : Tryd.prog.cellsOf 39 = 2 := by kernel_rfl
  have h1 : Tryd.prog.cellsOf 22 = 1 := by kernel_rfl
  obtain ⟨u0, u1, rfl⟩ := list2 cs (by rw [hl, hc])
  obtain ⟨y0, y1, rfl⟩ := list2 xs hn
  have g0 : DataW.trod enc Tryd.prog w base sp held m 22 [u0] = some y0 := by
    have h : DataW.trod enc Tryd.prog w base sp held m 22 ((([u0, u1] : List Value).drop 0).take (Tryd.prog.cellsOf 22)) = some y0 := hel 0 _ rfl
    rw [h1] at h
    exact h
  have g1 : DataW.trod enc Tryd.prog w base sp held m 22 [u1] = some y1 := by
    have h : DataW.trod enc Tryd.prog w base sp held m 22 ((([u0, u1] : List Value).drop 1).take (Tryd.prog.cellsOf 22)) = some y1 := hel 1 _ rfl
    rw [h1] at h
    exact h
  obtain ⟨a0, rfl, w0⟩ := int_of_trod Tryd.underlying22 g0
  obtain ⟨a1, rfl, w1⟩ := int_of_trod Tryd.underlying22 g1
  exact ⟨(a0, a1), rfl, wf_u64 w0, wf_u64 w1⟩
/-- A slice of ranges, as it came in. -/
structure SlG (w : World) (A : Option Addr) (c : Nat) (l : List (Int × Int)) : Prop where
  rd : RdG w A l
  ok : ∀ p ∈ l, PairOk p
  le : l.length ≤ c
  max : c ≤ 9223372036854775807
  nil : A = none → c = 0
theorem SlG.below {w w' : World} {A : Option Addr} {c : Nat} {l : List (Int × Int)} (h : SlG w A c l) (hb : Below w.heap.size w w') : SlG w' A c l := ⟨h.rd.below hb, h.ok, h.le, h.max, h.nil⟩
theorem open_ranges {H : Type} {enc : TypeId × Value → H} {w : World} {base : Nat} {sp : Nat → Bool} {held : Bool} {a : Option Addr} {len cap fuel : Nat} {x : DataW H × List MemPlace}
    (h : DataW.trod enc Tryd.prog w base sp held fuel 26 [.slice a len cap] = some x) : ∃ l, SlG w a cap l ∧ len = l.length := by
  obtain ⟨l, r, e, h1, h2, h3⟩ := open_T (n := 2) (cells := PairC) (ok := PairOk) Tryd.underlying26 (by kernel_rfl) (by omega) (0, 0) range_cells h
  exact ⟨l, ⟨RdG.of_T r, r.each, h1, h2, h3⟩, e⟩
theorem open_rgv {H : Type} {enc : TypeId × Value → H} {w : World} {base : Nat} {sp : Nat → Bool} {held : Bool} {v : Value} {fuel : Nat} {x : DataW H × List MemPlace}
    (h : DataW.trod enc Tryd.prog w base sp held fuel 26 [v] = some x) : ∃ t : Option Addr × Nat × List (Int × Int), v = .slice t.1 t.2.2.length t.2.1 ∧ SlG w t.1 t.2.1 t.2.2 := by
  have hv : ∃ a len cap, v = .slice a len cap := by
    rcases Deep.open_slice Tryd.underlying26 h with ⟨hcs, _⟩ | ⟨ad, l, c, m, n', D, Pl, hcs, _⟩
    · exact ⟨none, 0, 0, by simpa using hcs⟩
    · exact ⟨some ad, l, c, by simpa using hcs⟩
  obtain ⟨a, len, cap, rfl⟩ := hv
  obtain ⟨l, h1, rfl⟩ := open_ranges h
  exact ⟨(a, cap, l), rfl, h1⟩
theorem list9 {α : Type} : ∀ (l : List α), l.length = 9 → ∃ a b c d e f g h i, l = [a, b, c, d, e, f, g, h, i]
  | [a, b, c, d, e, f, g, h, i], _ => ⟨a, b, c, d, e, f, g, h, i, rfl⟩
def wf64 (n : Int) : Prop := 0 ≤ n ∧ n < 18446744073709551616
theorem open_frame {H : Type} {enc : TypeId × Value → H} {w : World} {base b0 : Nat} {r : Reach} {sp : Nat → Bool} {held : Bool} {v : Value} {d : DataW H} {p : List MemPlace}
    (hv : Value.okWide Tryd.prog w r b0 28 v) (h : DataW.Trod enc Tryd.prog w base sp held 28 v d p) :
    ∃ (k id off n cd : Int) (fin : Bool) (A : Option Addr) (c : Nat) (a : List Int) (B : Option Addr) (c' : Nat) (b : List Int) (R : Option Addr) (c'' : Nat) (l : List (Int × Int)),
      v = .agg #[.int .u64 k, .int .u64 id, .int .u64 off, .int .u64 n, .int .u64 cd, .bool fin, .slice A a.length c, .slice B b.length c', .slice R l.length c''] ∧
      (wf64 k ∧ wf64 id ∧ wf64 off ∧ wf64 n ∧ wf64 cd) ∧ (Sl w A c a ∧ Bytes a) ∧ (Sl w B c' b ∧ Bytes b) ∧ SlG w R c'' l := by
  obtain ⟨cs, rfl, hsz⟩ := okWide_struct Tryd.underlying28 hv
  obtain ⟨fuel, hf⟩ := h
  obtain ⟨xs, m, _, _, hl, hn, hel⟩ := DataW.trod_struct Tryd.underlying28 hf
  have hc9 : Tryd.prog.cellsOf 28 = 9 := by kernel_rfl
  have hl9 : cs.toList.length = 9 := by rw [← hc9, ← hsz]; rfl
  obtain ⟨u0, u1, u2, u3, u4, u5, u6, u7, u8, hcs⟩ := list9 cs.toList hl9
  obtain ⟨y0, y1, y2, y3, y4, y5, y6, y7, y8, rfl⟩ := list9 xs hn
  have e : cs = #[u0, u1, u2, u3, u4, u5, u6, u7, u8] := by rw [← Array.toArray_toList (xs := cs), hcs]
  subst e
  have kw : Tryd.prog.cellsOf 22 = 1 := by kernel_rfl
  have kb : Tryd.prog.cellsOf 4 = 1 := by kernel_rfl
  have ks : Tryd.prog.cellsOf 23 = 1 := by kernel_rfl
  have kr : Tryd.prog.cellsOf 26 = 1 := by kernel_rfl
  have g0 : DataW.trod enc Tryd.prog w base sp held m 22 [u0] = some y0 := by
    have h : DataW.trod enc Tryd.prog w base sp held m 22 ((([u0, u1, u2, u3, u4, u5, u6, u7, u8] : List Value).drop 0).take (Tryd.prog.cellsOf 22)) = some y0 := hel 0 _ rfl
    rw [kw] at h
    exact h
  have g1 : DataW.trod enc Tryd.prog w base sp held m 22 [u1] = some y1 := by
    have h : DataW.trod enc Tryd.prog w base sp held m 22 ((([u0, u1, u2, u3, u4, u5, u6, u7, u8] : List Value).drop 1).take (Tryd.prog.cellsOf 22)) = some y1 := hel 1 _ rfl
    rw [kw] at h
    exact h
  have g2 : DataW.trod enc Tryd.prog w base sp held m 22 [u2] = some y2 := by
    have h : DataW.trod enc Tryd.prog w base sp held m 22 ((([u0, u1, u2, u3, u4, u5, u6, u7, u8] : List Value).drop 2).take (Tryd.prog.cellsOf 22)) = some y2 := hel 2 _ rfl
    rw [kw] at h
    exact h
  have g3 : DataW.trod enc Tryd.prog w base sp held m 22 [u3] = some y3 := by
    have h : DataW.trod enc Tryd.prog w base sp held m 22 ((([u0, u1, u2, u3, u4, u5, u6, u7, u8] : List Value).drop 3).take (Tryd.prog.cellsOf 22)) = some y3 := hel 3 _ rfl
    rw [kw] at h
    exact h
  have g4 : DataW.trod enc Tryd.prog w base sp held m 22 [u4] = some y4 := by
    have h : DataW.trod enc Tryd.prog w base sp held m 22 ((([u0, u1, u2, u3, u4, u5, u6, u7, u8] : List Value).drop 4).take (Tryd.prog.cellsOf 22)) = some y4 := hel 4 _ rfl
    rw [kw] at h
    exact h
  have g5 : DataW.trod enc Tryd.prog w base sp held m 4 [u5] = some y5 := by
    have h : DataW.trod enc Tryd.prog w base sp held m 4 ((([u0, u1, u2, u3, u4, u5, u6, u7, u8] : List Value).drop 5).take (Tryd.prog.cellsOf 4)) = some y5 := hel 5 _ rfl
    rw [kb] at h
    exact h
  have g6 : DataW.trod enc Tryd.prog w base sp held m 23 [u6] = some y6 := by
    have h : DataW.trod enc Tryd.prog w base sp held m 23 ((([u0, u1, u2, u3, u4, u5, u6, u7, u8] : List Value).drop 6).take (Tryd.prog.cellsOf 23)) = some y6 := hel 6 _ rfl
    rw [ks] at h
    exact h
  have g7 : DataW.trod enc Tryd.prog w base sp held m 23 [u7] = some y7 := by
    have h : DataW.trod enc Tryd.prog w base sp held m 23 ((([u0, u1, u2, u3, u4, u5, u6, u7, u8] : List Value).drop 7).take (Tryd.prog.cellsOf 23)) = some y7 := hel 7 _ rfl
    rw [ks] at h
    exact h
  have g8 : DataW.trod enc Tryd.prog w base sp held m 26 [u8] = some y8 := by
    have h : DataW.trod enc Tryd.prog w base sp held m 26 ((([u0, u1, u2, u3, u4, u5, u6, u7, u8] : List Value).drop 8).take (Tryd.prog.cellsOf 26)) = some y8 := hel 8 _ rfl
    rw [kr] at h
    exact h
  clear hel
  obtain ⟨a0, rfl, w0⟩ := int_of_trod Tryd.underlying22 g0
  obtain ⟨a1, rfl, w1⟩ := int_of_trod Tryd.underlying22 g1
  obtain ⟨a2, rfl, w2⟩ := int_of_trod Tryd.underlying22 g2
  obtain ⟨a3, rfl, w3⟩ := int_of_trod Tryd.underlying22 g3
  obtain ⟨a4, rfl, w4⟩ := int_of_trod Tryd.underlying22 g4
  obtain ⟨a5, rfl⟩ := bool_of_trod Tryd.underlying4 g5
  obtain ⟨t6, rfl, s6, q6⟩ := open_u8v g6
  obtain ⟨t7, rfl, s7, q7⟩ := open_u8v g7
  obtain ⟨t8, rfl, s8⟩ := open_rgv g8
  exact ⟨a0, a1, a2, a3, a4, a5, t6.1, t6.2.1, t6.2.2, t7.1, t7.2.1, t7.2.2, t8.1, t8.2.1, t8.2.2, rfl, ⟨wf_u64 w0, wf_u64 w1, wf_u64 w2, wf_u64 w3, wf_u64 w4⟩, ⟨s6, q6⟩, ⟨s7, q7⟩, s8⟩
end Go.Proofs.YtfimngmpkckcdaaDoor
