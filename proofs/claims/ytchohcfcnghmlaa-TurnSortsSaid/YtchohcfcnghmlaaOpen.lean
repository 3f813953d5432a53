/-
  From how an argument reads as data to the words of XWords.
-/
import Derived.Test.YtchohcfcnghmlaaWords
import Derived.ProofKit
import Derived.OpenShut
import Derived.Lib.LaidTab
import Derived.Stop.LaidErr
import Derived.Stop.Joined
import Derived.LaidMore
import Derived.MakeChecks
import Derived.Deep.Slices
namespace Go.Proofs.Ytchohcfcnghmlaa
open Go.ChangeShapes Go.WideShapes Go.ChangeAt Go.RowKit

theorem wf_u8 {n : Int} (h : (Lit.int .u8 n).wf = true) : 0 ≤ n ∧ n < 256 := by
  have := bounds_u8 h
  omega
/-- A slice of slices of bytes: each its address, its room, its bytes. -/
def BV (x : Option Addr × Nat × List Int) : Value := .slice x.1 x.2.2.length x.2.1
structure RdBs (w : World) (A : Option Addr) (xs : List (Option Addr × Nat × List Int)) : Prop where
  row : Reads w w.heap.size 1 A xs.length (xs.map BV)
  each : ∀ x ∈ xs, Sl w x.1 x.2.1 x.2.2 ∧ Bytes x.2.2
theorem RdBs.below {w w' : World} {A : Option Addr} {xs : List (Option Addr × Nat × List Int)} (h : RdBs w A xs) (hb : Below w.heap.size w w') : RdBs w' A xs :=
  ⟨(Reads.below h.row hb).more hb.size, fun x hx => ⟨(h.each x hx).1.below hb, (h.each x hx).2⟩⟩
theorem RdBs.at_ {w : World} {A : Option Addr} {xs : List (Option Addr × Nat × List Int)} (h : RdBs w A xs) {j : Nat} (hj : j < xs.length) :
    ∃ b off, A = some ⟨b, off, none⟩ ∧ b < w.heap.size ∧ w.cell? ⟨b, off + j, none⟩ = some (BV xs[j]) := by
  obtain ⟨ad, u, rfl, hb, hu, hc⟩ := h.row.at_ hj
  simp only [List.getElem?_map, List.getElem?_eq_getElem hj, Option.map_some, Option.some.injEq] at hu
  subst hu
  obtain ⟨b, off, spot⟩ := ad
  have hs : spot = none := by
    obtain ⟨ad', u', e', _, _, hc'⟩ := h.row.at_ (k := 0) (by omega)
    injection e' with e'
    subst e'
    simpa [Addr.add] using World.cell?_spot hc'
  subst hs
  refine ⟨b, off, rfl, hb, ?_⟩
  rw [← hc]
  congr 1
  unfold Addr.add
  by_cases h0 : j = 0 <;> simp [h0]
end Go.Proofs.Ytchohcfcnghmlaa
