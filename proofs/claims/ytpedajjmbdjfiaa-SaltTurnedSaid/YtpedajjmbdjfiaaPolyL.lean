import Derived.Test.YtpedajjmbdjfiaaPolyK
import Derived.Deep.RegionWith
import Derived.Deep.DeepCutAuto
namespace Go.Proofs.Ytpedajjmbdjfiaa
open Go.RowKit
set_option linter.unusedVariables false
set_option linter.unusedSimpArgs false

theorem rd_far {w w' : World} {b off ga : Nat} {l : List Int} (h : Rd w (some ⟨b, off, none⟩) l) (hg : w.grownBy w' (some ga)) (hne : b ≠ ga) : Rd w' (some ⟨b, off, none⟩) l := by
  refine ⟨h.1, fun hn => ?_⟩
  obtain ⟨ad, e, hb, hc⟩ := h.2 hn
  refine ⟨ad, e, Nat.lt_of_lt_of_le hb hg.size, fun j u hu => ?_⟩
  injection e with e
  have hk := hg.block b (by rw [← e] at hb; exact hb) (by simp [hne])
  have hcc := hc j u hu
  have eb : (ad.add j).block = b := by rw [block_of_add, ← e]
  unfold World.cell? at hcc ⊢
  rw [eb] at hcc ⊢
  rw [hk]
  exact hcc
theorem slice_k (b o L c k : Nat) (hk : k ≤ L) (hc : L ≤ c) : ∃ A2 : Option Addr, (k < L → A2 = some ⟨b, o + k, none⟩) ∧
    ∀ W : World, (Instr.slice 27 (.slice (some ⟨b, o, none⟩) L c) (some (.int .i64 (k : Int))) none none).run Try.prog W = .ok (.slice A2 (L - k) (c - k)) W := by
  refine ⟨if c = k then some ⟨b, o, none⟩ else some ((⟨b, o, none⟩ : Addr).add k), fun h => ?_, fun W => ?_⟩
  · rw [if_neg (by omega)]
    unfold Addr.add
    by_cases h0 : k = 0 <;> simp [h0]
  · rw [run_slice_l (P := Try.prog) W 27 (some ⟨b, o, none⟩) L c (by rw [elem_u8]; exact Try.underlying27) .i64 (k : Int) (by omega) (by omega), elem_u8]
    rw [run_sizeOf_u8]
    simp only [Result.andThen_ok, sliced, Int.toNat_natCast, Nat.mul_one]
    by_cases h : c = k <;> simp [h]
end Go.Proofs.Ytpedajjmbdjfiaa
