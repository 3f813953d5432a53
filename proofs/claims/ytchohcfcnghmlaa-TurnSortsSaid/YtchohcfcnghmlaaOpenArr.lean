/-
  An array of bytes by value, opened.
-/
import Derived.Test.YtchohcfcnghmlaaOpen
import Derived.Test.YtchohcfcnghmlaaInts
namespace Go.Proofs.Ytchohcfcnghmlaa
set_option maxRecDepth 100000
open Go.ChangeShapes Go.WideShapes Go.ChangeAt Go.RowKit

theorem cells_ints : ∀ (cs : List Value), (∀ u ∈ cs, ∃ a : Int, u = .int .u8 a ∧ 0 ≤ a ∧ a < 256) → ∃ l : List Int, cs = IV .u8 l ∧ Bytes l
  | [], _ => ⟨[], rfl, Bytes.nil⟩
  | u :: r, h => by
    obtain ⟨a, rfl, h0, h1⟩ := h u (by simp)
    obtain ⟨l, rfl, hb⟩ := cells_ints r (fun v hv => h v (by simp [hv]))
    exact ⟨a :: l, rfl, Bytes.cons h0 h1 hb⟩
theorem open_a8 {H : Type} {enc : TypeId × Value → H} {w : World} {base b0 : Nat} {r : Reach} {sp : Nat → Bool} {held : Bool} {t : TypeId} {n : Nat} {v : Value} {d : DataW H} {p : List MemPlace}
    (ht : Try.prog.underlying t = some (.array n 5)) (hc : Try.prog.cellsOf t = n) (hv : Value.okWide Try.prog w r b0 t v) (h : DataW.Trod enc Try.prog w base sp held t v d p) :
    ∃ l : List Int, v = .agg (IV .u8 l).toArray ∧ l.length = n ∧ Bytes l := by
  simp only [Value.okWide, ht] at hv
  obtain ⟨cs, rfl, h2, _⟩ := hv
  obtain ⟨fuel, hf⟩ := h
  obtain ⟨xs, m, _, _, hl, hn, hel⟩ := DataW.trod_array ht hf
  have h1 : Try.prog.cellsOf 5 = 1 := by kernel_rfl
  have hcl : (Value.agg cs).cells = cs := rfl
  rw [hcl] at hel hl
  obtain ⟨l, e, hb⟩ := cells_ints cs.toList (fun u hu => by
    obtain ⟨i, hi, e⟩ := List.getElem_of_mem hu
    have hin : i < n := by rw [hl, hc] at hi; exact hi
    have hy := hel i hin
    rw [h1, Nat.mul_one, List.getElem?_eq_getElem (by omega : i < xs.length)] at hy
    have ed : (cs.toList.drop i).take 1 = [u] := by
      rw [List.drop_eq_getElem_cons hi, e]; rfl
    rw [ed] at hy
    obtain ⟨a, ea, _, wa⟩ := DataW.trod_int Try.underlying5 hy
    injection ea with ea
    exact ⟨a, ea, wf_u8 wa⟩)
  refine ⟨l, ?_, ?_, hb⟩
  · rw [← e]
  · have : cs.toList.length = n := by rw [hl, hc]
    rw [e, IV_length] at this
    exact this
end Go.Proofs.Ytchohcfcnghmlaa
