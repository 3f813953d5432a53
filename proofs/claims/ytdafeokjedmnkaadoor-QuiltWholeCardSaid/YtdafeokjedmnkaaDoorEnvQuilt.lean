/-
  What the listed tables give the walks: the library's table of trailing zeros.
-/
import Derived.Test.YtdafeokjedmnkaaDoorOpen
import Derived.Test.YtdafeokjedmnkaaDoorQuiltB
namespace Go.Proofs.YtdafeokjedmnkaaDoor
open Go.ChangeShapes Go.WideShapes Go.ChangeAt Go.RowKit

theorem tab_listQ {H : Type} : (Rows.laid_math_bits_deBruijn64tab : DataW H) = Lib.tabData .u8 (Lib.deBruijn64tab.map fun n : Nat => (n : Int)) := rfl
theorem tabT_of {W : World} (h : laidMetH Tryd.prog [("math/bits.deBruijn64tab", Rows.laid_math_bits_deBruijn64tab)] W) : TabT W := by
  rw [MakeChecks.laidMetH_plain _ _ _ (by kernel_rfl)] at h
  rw [tab_listQ] at h
  have hg : Tryd.prog.globalNamed "math/bits.deBruijn64tab" = some 0 := by kernel_rfl
  have ht := Lib.tabIs_of_head (n := 64) (t := 65) (e := 5) hg (by kernel_rfl) Tryd.underlying65 Tryd.underlying5 (by kernel_rfl) (by kernel_rfl) h
  refine ⟨World.block_lt_of_cell? W _ (ht.cell hg 0 (by decide)), fun j hj => ?_⟩
  have h1 := ht.cell hg j hj
  rw [h1]
  have e : (Lib.deBruijn64tab.map fun n : Nat => (n : Int)).getD j 0 = ((Lib.deBruijn64tab.getD j 0 : Nat) : Int) := by
    simp only [List.getD_eq_getElem?_getD, List.getElem?_map]
    cases Lib.deBruijn64tab[j]? <;> rfl
  first
    | rw [e]
    | (rw [← e]; rfl)
end Go.Proofs.YtdafeokjedmnkaaDoor
