/-
  From how an argument reads as data to the words of XWords.
-/
import Derived.Test.YtajfcdhnmchabaaDoorWords
import Derived.ProofKit
import Derived.OpenShut
import Derived.Lib.LaidTab
import Derived.Stop.LaidErr
import Derived.Stop.Joined
import Derived.LaidMore
import Derived.MakeChecks
namespace Go.Proofs.YtajfcdhnmchabaaDoor
open Go.ChangeShapes Go.WideShapes Go.ChangeAt Go.RowKit

theorem wf_u8 {n : Int} (h : (Lit.int .u8 n).wf = true) : 0 ≤ n ∧ n < 256 := by
  have := bounds_u8 h
  omega
theorem open_u8s {H : Type} {enc : TypeId × Value → H} {w : World} {base : Nat} {sp : Nat → Bool} {held : Bool} {a : Option Addr} {len cap fuel : Nat} {x : DataW H × List MemPlace}
    (h : DataW.trod enc Tryd.prog w base sp held fuel 23 [.slice a len cap] = some x) :
    ∃ l, Rd w a l ∧ Bytes l ∧ len = l.length ∧ l.length ≤ cap ∧ cap ≤ 9223372036854775807 ∧ (a = none → cap = 0) := by
  rcases open_ints Tryd.underlying23 Tryd.underlying5 (by kernel_rfl) h with ⟨hcs, _⟩ | ⟨ad, l, c, zs, hcs, _, hl, hm, hz, _, hcell, hwz⟩
  · simp at hcs
    obtain ⟨rfl, rfl, rfl⟩ := hcs
    exact ⟨[], Rd.nil _ _, Bytes.nil, rfl, by simp, by omega, fun _ => rfl⟩
  · simp at hcs
    obtain ⟨rfl, rfl, rfl⟩ := hcs
    have hlz : len ≤ zs.length := by rw [hz]; split <;> omega
    refine ⟨zs.take len, ⟨by simp [U8], fun hn => ⟨ad, rfl, ?_, fun j u hu => ?_⟩⟩, fun n hn => wf_u8 (hwz n (List.mem_of_mem_take hn)), by simp; omega, by simp; omega, by unfold maxLen at hm; omega, fun h => by cases h⟩
    · have h0 : 0 < zs.length := by simp at hn; omega
      have := hcell 0 h0
      have hb := World.block_lt_of_cell? w _ this
      rwa [block_of_add] at hb
    · obtain ⟨y, hy, rfl⟩ := U8_at hu
      rw [List.getElem?_take] at hy
      split at hy
      · have hj : j < zs.length := by
          rcases Nat.lt_or_ge j zs.length with h | h
          · exact h
          · rw [List.getElem?_eq_none h] at hy; cases hy
        rw [hcell j hj]
        simp [List.getD, hy]
      · cases hy
end Go.Proofs.YtajfcdhnmchabaaDoor
