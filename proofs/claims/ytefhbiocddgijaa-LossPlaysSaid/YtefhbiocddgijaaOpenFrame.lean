/-
  A range, a slice of ranges, a frame by value: opened.
-/
import Derived.Test.YtefhbiocddgijaaRng
namespace Go.Proofs.Ytefhbiocddgijaa
open Go.ChangeShapes Go.WideShapes Go.ChangeAt Go.RowKit
set_option linter.unusedVariables false

theorem range_cells {H : Type} {enc : TypeId × Value → H} {w : World} {base : Nat} {sp : Nat → Bool} {held : Bool} {cs : List Value} {fuel : Nat} {y : DataW H × List MemPlace}
    (h : DataW.trod enc Try.prog w base sp held fuel 61 cs = some y) : ∃ p : Int × Int, cs = PairC p ∧ PairOk p := by
  obtain ⟨xs, m, _, _, hl, hn, hel⟩ := DataW.trod_struct Try.underlying61 h
  have hc : Try.prog.cellsOf 61 = 2 := by kernel_rfl
  have h1 : Try.prog.cellsOf 28 = 1 := by kernel_rfl
  obtain ⟨u0, u1, rfl⟩ := list2 cs (by rw [hl, hc])
  obtain ⟨y0, y1, rfl⟩ := list2 xs hn
  have g0 : DataW.trod enc Try.prog w base sp held m 28 [u0] = some y0 := by
    have h : DataW.trod enc Try.prog w base sp held m 28 ((([u0, u1] : List Value).drop 0).take (Try.prog.cellsOf 28)) = some y0 := hel 0 _ rfl
    rw [h1] at h
    exact h
  have g1 : DataW.trod enc Try.prog w base sp held m 28 [u1] = some y1 := by
    have h : DataW.trod enc Try.prog w base sp held m 28 ((([u0, u1] : List Value).drop 1).take (Try.prog.cellsOf 28)) = some y1 := hel 1 _ rfl
    rw [h1] at h
    exact h
  obtain ⟨a0, rfl, w0⟩ := int_of_trod Try.underlying28 g0
  obtain ⟨a1, rfl, w1⟩ := int_of_trod Try.underlying28 g1
  exact ⟨(a0, a1), rfl, wf_u64 w0, wf_u64 w1⟩
/-- A slice of ranges, as it came in. -/
structure SlG (w : World) (A : Option Addr) (c : Nat) (l : List (Int × Int)) : Prop where
  rd : RdG w A l
  ok : ∀ p ∈ l, PairOk p
  le : l.length ≤ c
  max : c ≤ 9223372036854775807
  nil : A = none → c = 0
theorem SlG.below {w w' : World} {A : Option Addr} {c : Nat} {l : List (Int × Int)} (h : SlG w A c l) (hb : Below w.heap.size w w') : SlG w' A c l := ⟨h.rd.below hb, h.ok, h.le, h.max, h.nil⟩
theorem open_ranges {H : Type} {enc : TypeId × Value → H} {w : World} {base : Nat} {sp : Nat → Bool} {held : Bool} {a : Option Addr} {len cap fuel : Nat} {x : DataW H × List MemPlace}
    (h : DataW.trod enc Try.prog w base sp held fuel 33 [.slice a len cap] = some x) : ∃ l, SlG w a cap l ∧ len = l.length := by
  obtain ⟨l, r, e, h1, h2, h3⟩ := open_T (n := 2) (cells := PairC) (ok := PairOk) Try.underlying33 (by kernel_rfl) (by omega) (0, 0) range_cells h
  exact ⟨l, ⟨RdG.of_T r, r.each, h1, h2, h3⟩, e⟩
theorem open_rgv {H : Type} {enc : TypeId × Value → H} {w : World} {base : Nat} {sp : Nat → Bool} {held : Bool} {v : Value} {fuel : Nat} {x : DataW H × List MemPlace}
    (h : DataW.trod enc Try.prog w base sp held fuel 33 [v] = some x) : ∃ t : Option Addr × Nat × List (Int × Int), v = .slice t.1 t.2.2.length t.2.1 ∧ SlG w t.1 t.2.1 t.2.2 := by
  have hv : ∃ a len cap, v = .slice a len cap := by
    rcases Deep.open_slice Try.underlying33 h with ⟨hcs, _⟩ | ⟨ad, l, c, m, n', D, Pl, hcs, _⟩
    · exact ⟨none, 0, 0, by simpa using hcs⟩
    · exact ⟨some ad, l, c, by simpa using hcs⟩
  obtain ⟨a, len, cap, rfl⟩ := hv
  obtain ⟨l, h1, rfl⟩ := open_ranges h
  exact ⟨(a, cap, l), rfl, h1⟩
end Go.Proofs.Ytefhbiocddgijaa
