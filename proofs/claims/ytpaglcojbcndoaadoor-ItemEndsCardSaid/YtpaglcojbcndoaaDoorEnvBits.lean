/-
  What the listed tables give the walks: the library's table of trailing zeros.
-/
import Derived.Test.YtpaglcojbcndoaaDoorOpen
import Derived.Test.YtpaglcojbcndoaaDoorVintC
namespace Go.Proofs.YtpaglcojbcndoaaDoor
open Go.ChangeShapes Go.WideShapes Go.ChangeAt Go.RowKit

theorem tab_list {H : Type} : (Rows.laid_math_bits_deBruijn64tab : DataW H) = Lib.tabData .u8 [0, 1, 56, 2, 57, 49, 28, 3, 61, 58, 42, 50, 38, 29, 17, 4, 62, 47, 59, 36, 45, 43, 51, 22, 53, 39, 33, 30, 24, 18, 12, 5, 63, 55, 48, 27, 60, 41, 37, 16, 46, 35, 44, 21, 52, 32, 23, 11, 54, 26, 40, 15, 34, 20, 31, 10, 25, 14, 19, 9, 13, 8, 7, 6] := rfl
theorem tab_of {W : World} (h : laidMetH Tryd.prog [("math/bits.deBruijn32tab", Rows.laid_math_bits_deBruijn32tab), ("math/bits.deBruijn64tab", Rows.laid_math_bits_deBruijn64tab)] W) : Tab W := by
  rw [MakeChecks.laidMetH_plain _ _ _ (by kernel_rfl)] at h
  have h2 := h.tail
  rw [tab_list] at h2
  have hg : Tryd.prog.globalNamed "math/bits.deBruijn64tab" = some 1 := by kernel_rfl
  have ht := Lib.tabIs_of_head (n := 64) (t := 118) (e := 5) hg (by kernel_rfl) Tryd.underlying118 Tryd.underlying5 (by kernel_rfl) (by kernel_rfl) h2
  have c0 := ht.cell hg 0 (by decide)
  have c1 := ht.cell hg 1 (by decide)
  have c3 := ht.cell hg 3 (by decide)
  have c7 := ht.cell hg 7 (by decide)
  exact ⟨World.block_lt_of_cell? W _ c0, c0, c1, c3, c7⟩
end Go.Proofs.YtpaglcojbcndoaaDoor
