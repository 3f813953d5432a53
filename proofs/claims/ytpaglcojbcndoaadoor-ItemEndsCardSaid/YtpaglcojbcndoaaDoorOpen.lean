/-
  From how an argument reads as data to the words of XWords.
-/
import Derived.Test.YtpaglcojbcndoaaDoorWords
import Derived.ProofKit
import Derived.OpenShut
import Derived.Lib.LaidTab
import Derived.Stop.LaidErr
import Derived.Stop.Joined
import Derived.LaidMore
import Derived.MakeChecks
import Derived.Deep.Slices
namespace Go.Proofs.YtpaglcojbcndoaaDoor
open Go.ChangeShapes Go.WideShapes Go.ChangeAt Go.RowKit

theorem wf_u8 {n : Int} (h : (Lit.int .u8 n).wf = true) : 0 ≤ n ∧ n < 256 := by
  have := bounds_u8 h
  omega
theorem open_u8s {H : Type} {enc : TypeId × Value → H} {w : World} {base : Nat} {sp : Nat → Bool} {held : Bool} {a : Option Addr} {len cap fuel : Nat} {x : DataW H × List MemPlace}
    (h : DataW.trod enc Tryd.prog w base sp held fuel 25 [.slice a len cap] = some x) :
    ∃ l, Rd w a l ∧ Bytes l ∧ len = l.length ∧ l.length ≤ cap ∧ cap ≤ 9223372036854775807 ∧ (a = none → cap = 0) := by
  rcases open_ints Tryd.underlying25 Tryd.underlying5 (by kernel_rfl) h with ⟨hcs, _⟩ | ⟨ad, l, c, zs, hcs, _, hl, hm, hz, _, hcell, hwz⟩
  · simp at hcs
    obtain ⟨rfl, rfl, rfl⟩ := hcs
    exact ⟨[], Rd.nil _ _, Bytes.nil, rfl, by simp, by omega, fun _ => rfl⟩
  · simp at hcs
    obtain ⟨rfl, rfl, rfl⟩ := hcs
    have hlz : len ≤ zs.length := by rw [hz]; split <;> omega
    refine ⟨zs.take len, ⟨by simp [U8], fun hn => ⟨ad, rfl, ?_, fun j u hu => ?_⟩⟩, fun n hn => wf_u8 (hwz n (List.mem_of_mem_take hn)), by simp; omega, by simp; omega, by unfold maxLen at hm; omega, fun h => by cases h⟩
    · have h0 : 0 < zs.length := by simp at hn; omega
      have := hcell 0 h0
      have hb := World.block_lt_of_cell? w _ this
      rwa [block_of_add] at hb
    · obtain ⟨y, hy, rfl⟩ := U8_at hu
      rw [List.getElem?_take] at hy
      split at hy
      · have hj : j < zs.length := by
          rcases Nat.lt_or_ge j zs.length with h | h
          · exact h
          · rw [List.getElem?_eq_none h] at hy; cases hy
        rw [hcell j hj]
        simp [List.getD, hy]
      · cases hy
/-- A value that reads as a slice of bytes. -/
theorem open_u8v {H : Type} {enc : TypeId × Value → H} {w : World} {base : Nat} {sp : Nat → Bool} {held : Bool} {v : Value} {fuel : Nat} {x : DataW H × List MemPlace}
    (h : DataW.trod enc Tryd.prog w base sp held fuel 25 [v] = some x) : ∃ t : Option Addr × Nat × List Int, v = .slice t.1 t.2.2.length t.2.1 ∧ Sl w t.1 t.2.1 t.2.2 ∧ Bytes t.2.2 := by
  have hv : ∃ a len cap, v = .slice a len cap := by
    rcases open_ints Tryd.underlying25 Tryd.underlying5 (by kernel_rfl) h with ⟨hcs, _⟩ | ⟨ad, l, c, zs, hcs, _⟩
    · exact ⟨none, 0, 0, by simpa using hcs⟩
    · exact ⟨some ad, l, c, by simpa using hcs⟩
  obtain ⟨a, len, cap, rfl⟩ := hv
  obtain ⟨l, h1, h2, rfl, h3, h4, h5⟩ := open_u8s h
  exact ⟨(a, cap, l), rfl, ⟨h1, h3, h4, h5⟩, h2⟩
/-- A slice of slices of bytes: each its address, its room, its bytes. -/
def BV (x : Option Addr × Nat × List Int) : Value := .slice x.1 x.2.2.length x.2.1
structure RdBs (w : World) (A : Option Addr) (xs : List (Option Addr × Nat × List Int)) : Prop where
  row : Reads w w.heap.size 1 A xs.length (xs.map BV)
  each : ∀ x ∈ xs, Sl w x.1 x.2.1 x.2.2 ∧ Bytes x.2.2
theorem RdBs.below {w w' : World} {A : Option Addr} {xs : List (Option Addr × Nat × List Int)} (h : RdBs w A xs) (hb : Below w.heap.size w w') : RdBs w' A xs :=
  ⟨(Reads.below h.row hb).more hb.size, fun x hx => ⟨(h.each x hx).1.below hb, (h.each x hx).2⟩⟩
theorem RdBs.at_ {w : World} {A : Option Addr} {xs : List (Option Addr × Nat × List Int)} (h : RdBs w A xs) {j : Nat} (hj : j < xs.length) :
    ∃ b off, A = some ⟨b, off, none⟩ ∧ b < w.heap.size ∧ w.cell? ⟨b, off + j, none⟩ = some (BV xs[j]) := by
  obtain ⟨ad, u, rfl, hb, hu, hc⟩ := h.row.at_ hj
  simp only [List.getElem?_map, List.getElem?_eq_getElem hj, Option.map_some, Option.some.injEq] at hu
  subst hu
  obtain ⟨b, off, spot⟩ := ad
  have hs : spot = none := by
    obtain ⟨ad', u', e', _, _, hc'⟩ := h.row.at_ (k := 0) (by omega)
    injection e' with e'
    subst e'
    simpa [Addr.add] using World.cell?_spot hc'
  subst hs
  refine ⟨b, off, rfl, hb, ?_⟩
  rw [← hc]
  congr 1
  unfold Addr.add
  by_cases h0 : j = 0 <;> simp [h0]
theorem open_bss {H : Type} {enc : TypeId × Value → H} {w : World} {base : Nat} {sp : Nat → Bool} {held : Bool} {a : Option Addr} {len cap fuel : Nat} {x : DataW H × List MemPlace}
    (h : DataW.trod enc Tryd.prog w base sp held fuel 43 [.slice a len cap] = some x) :
    ∃ xs, RdBs w a xs ∧ len = xs.length ∧ xs.length ≤ cap ∧ cap ≤ 9223372036854775807 ∧ (a = none → cap = 0) := by
  rcases Deep.open_slice1 Tryd.underlying43 (by kernel_rfl) h with ⟨hcs, _⟩ | ⟨ad, l, c, m, n, V, D, Pl, hcs, _, hl, hm, hmm, _, hcell⟩
  · simp at hcs
    obtain ⟨rfl, rfl, rfl⟩ := hcs
    exact ⟨[], ⟨⟨by simp, fun h => absurd h (by simp)⟩, (fun _ h => by cases h)⟩, rfl, by simp, by omega, fun _ => rfl⟩
  · simp at hcs
    obtain ⟨rfl, rfl, rfl⟩ := hcs
    have hlm : len ≤ m := by rw [hmm]; split <;> omega
    obtain ⟨f, hf⟩ := Deep.choose_lt (n := len) (p := fun i (t : Option Addr × Nat × List Int) => V i = .slice t.1 t.2.2.length t.2.1 ∧ Sl w t.1 t.2.1 t.2.2 ∧ Bytes t.2.2) fun i hi => open_u8v (hcell i (by omega)).2
    refine ⟨(List.range len).map f, ⟨⟨by simp, fun hn => ⟨ad, rfl, ?_, fun j u hu => ?_⟩⟩, fun y hy => ?_⟩, by simp, by simpa using hl, by unfold maxLen at hm; omega, fun h => by cases h⟩
    · have h0 : 0 < len := by simpa using hn
      have hb := World.block_lt_of_cell? w _ (hcell 0 (by omega)).1
      rwa [block_of_add] at hb
    · have hj : j < len := by
        rcases Nat.lt_or_ge j len with h | h
        · exact h
        · rw [List.getElem?_eq_none (by simpa using h)] at hu; cases hu
      simp [hj] at hu
      rw [← hu, (hcell j (by omega)).1, (hf j hj).1]
      rfl
    · simp only [List.mem_map, List.mem_range] at hy
      obtain ⟨i, hi, rfl⟩ := hy
      exact (hf i hi).2
end Go.Proofs.YtpaglcojbcndoaaDoor
