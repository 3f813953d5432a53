/-
  What the listed tables give the walks: SHA-256's start and rounds.
-/
import Derived.Test.YtfpgnaeiiponmaaDoorOpen
import Derived.Test.YtfpgnaeiiponmaaDoorShaA
namespace Go.Proofs.YtfpgnaeiiponmaaDoor
open Go.ChangeShapes Go.WideShapes Go.ChangeAt Go.RowKit

theorem start_list {H : Type} : (Rows.laid_colonnade_ring_start : DataW H) = Lib.tabData .u32 shaH := rfl
theorem rounds_list {H : Type} : (Rows.laid_colonnade_ring_rounds : DataW H) = Lib.tabData .u32 shaK := rfl
theorem tabs_of {W : World} (h : laidMetH Tryd.prog [("colonnade/ring.start", Rows.laid_colonnade_ring_start), ("colonnade/ring.rounds", Rows.laid_colonnade_ring_rounds)] W) : STab W ∧ KTab W := by
  rw [MakeChecks.laidMetH_plain _ _ _ (by kernel_rfl)] at h
  have h2 := h.tail
  rw [start_list] at h
  rw [rounds_list] at h2
  have hg1 : Tryd.prog.globalNamed "colonnade/ring.start" = some 0 := by kernel_rfl
  have hg2 : Tryd.prog.globalNamed "colonnade/ring.rounds" = some 1 := by kernel_rfl
  have t1 := Lib.tabIs_of_head (n := 8) (t := 62) (e := 57) hg1 (by kernel_rfl) Tryd.underlying62 Tryd.underlying57 (by kernel_rfl) (by kernel_rfl) h
  have t2 := Lib.tabIs_of_head (n := 64) (t := 69) (e := 57) hg2 (by kernel_rfl) Tryd.underlying69 Tryd.underlying57 (by kernel_rfl) (by kernel_rfl) h2
  have c1 : ∀ i x, shaH[i]? = some x → W.cell? ⟨0, i, none⟩ = some (.int .u32 x) := by
    intro i x hx
    have hi : i < shaH.length := by
      rcases Nat.lt_or_ge i shaH.length with h | h
      · exact h
      · rw [List.getElem?_eq_none h] at hx; cases hx
    have := t1.cell hg1 i hi
    rwa [List.getD_eq_getElem?_getD, hx] at this
  have c2 : ∀ i x, shaK[i]? = some x → W.cell? ⟨1, i, none⟩ = some (.int .u32 x) := by
    intro i x hx
    have hi : i < shaK.length := by
      rcases Nat.lt_or_ge i shaK.length with h | h
      · exact h
      · rw [List.getElem?_eq_none h] at hx; cases hx
    have := t2.cell hg2 i hi
    rwa [List.getD_eq_getElem?_getD, hx] at this
  exact ⟨⟨World.block_lt_of_cell? W _ (c1 0 _ rfl), c1⟩, ⟨World.block_lt_of_cell? W _ (c2 0 _ rfl), c2⟩⟩
end Go.Proofs.YtfpgnaeiiponmaaDoor
