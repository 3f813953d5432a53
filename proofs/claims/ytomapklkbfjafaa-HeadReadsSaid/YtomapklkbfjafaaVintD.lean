import Derived.Test.YtomapklkbfjafaaVintC
namespace Go.Proofs.Ytomapklkbfjafaa
open Go.RowKit
set_option linter.unusedVariables false

theorem madeCells_u8 (n : Nat) : madeCells (Value.int .u8 0).cells n = (U8 (List.replicate n 0)).toArray := by
  have h : madeCells (Value.int .u8 0).cells n = (Array.range n).map fun _ => Value.int .u8 0 := by
    unfold madeCells
    refine Array.map_congr_left fun i _ => ?_
    simp [Value.cells, Nat.mod_one]
  rw [h]
  apply Array.ext'
  simp [U8, List.map_const']
theorem mk_u8 (n : Nat) (z z' : Int) (hz : z = n) (hz' : z' = n) (hn : n ≤ 70368744177664) (w : World) :
    (Instr.makeSlice 22 (.int .i64 z) (.int .i64 z')).run Try.prog w = .ok (.slice (some ⟨w.heap.size, 0, none⟩) n n) (w.alloc (.cells (U8 (List.replicate n 0)).toArray 5)) := by
  subst hz; subst hz'
  obtain ⟨i0, hi0, hz0, hz1, hz2⟩ := info_parts info_u8
  have hr := run_make (P := Try.prog) w 22 5 i0 _ Try.underlying22 hi0 hz0 .i64 .i64 (n : Int) (n : Int) (by omega) (by omega) (by rw [hz2]; omega) (by omega)
  simp only [Int.toNat_natCast] at hr
  rw [hr, hz1, Nat.mul_one, madeCells_u8]

/-- A store into a row of bytes. -/
theorem Blk.store_u8 {w : World} {g : Nat} {l : List Int} (h : Blk w g 5 (U8 l).toArray) (i : Nat) (x : Int) : Blk (w.setCell ⟨g, i, none⟩ (.int .u8 x)) g 5 (U8 (l.set i x)).toArray := by
  have := h.set_ i (.int .u8 x)
  simpa [U8, List.map_set] using this
theorem Blk.cell_u8 {w : World} {g : Nat} {l : List Int} (h : Blk w g 5 (U8 l).toArray) {i : Nat} {x : Int} (hx : l[i]? = some x) : w.cell? ⟨g, i, none⟩ = some (.int .u8 x) := by
  rw [h.cell]; simp [U8, hx]


end Go.Proofs.Ytomapklkbfjafaa
