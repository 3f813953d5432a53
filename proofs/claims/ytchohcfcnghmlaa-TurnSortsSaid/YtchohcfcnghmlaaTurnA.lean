/-
  turn: ranks, and what is stale; the program's and the reference's.
-/
import Derived.Test.YtchohcfcnghmlaaCmpU
import Derived.Test.YtchohcfcnghmlaaStepV
namespace Go.Proofs.Ytchohcfcnghmlaa
open Go.RowKit
set_option linter.unusedVariables false
set_option linter.unusedSimpArgs false
theorem info_rank : (Try.prog.info? 25).map (·.size) = some 3 := by kernel_rfl
theorem grow_rowT {w : World} {g : Nat} {cs : Array Value} : w.grownBy (w.setRow g cs) (some g) :=
  ⟨rfl, rfl, rfl, by simp, fun i hi hne => setRow_other w g i cs (by rintro rfl; exact hne rfl)⟩
theorem below_gsT {w w' : World} {g B : Nat} {a : World} (h : Below B a w) (hg : w.grownBy w' (some g)) (hB : B ≤ g) (hs : B ≤ w.heap.size) : Below B a w' :=
  ⟨hg.os.trans h.os, hg.tape.trans h.tape, hg.output.trans h.output, Nat.le_trans h.size hg.size, fun i hi => (hg.block i (by omega) (by intro e; injection e with e; omega)).trans (h.block i hi)⟩
theorem Blk.rowT {w : World} {g : Nat} {T : TypeId} {cs cs' : Array Value} (h : Blk w g T cs) : Blk (w.setRow g cs') g T cs' := by
  unfold Blk at h ⊢
  simp [World.setRow, Array.getElem?_modify, h]
theorem below_one {w : World} {o : Obj} {cs : Array Value} : Below w.heap.size w ((w.alloc o).setRow w.heap.size cs) := below_gsT ((Below.refl _ _).alloc (Nat.le_refl _) o) grow_rowT (Nat.le_refl _) (by simp)
/-- What stands for the group. -/
def gV (o g : Int) : Int := if o = 2 then 4611686018427387903 - min g 4611686018427387903 else g
theorem gV_b {o g : Int} (h0 : 0 ≤ g) (h1 : g < 18446744073709551616) : 0 ≤ gV o g ∧ gV o g < 18446744073709551616 := by
  unfold gV
  split <;> omega
abbrev RV (x y z : Int) : Value := .agg #[.int .u64 x, .int .u64 y, .int .u64 z]
theorem Rank_any (s p o g : Int) (w : World) (s0 : 0 ≤ s) (s1 : s < 256) (p0 : 0 ≤ p) (p1 : p < 256) (g0 : 0 ≤ g) :
    Calls Try.prog 8 #[.int .u8 s, .int .u8 p, .int .u8 o, .int .u64 g] w fun r w' => r = .returned (RV s p (gV o g)) ∧ Below w.heap.size w w' := by
  have K := Blk.new w 25 #[.int .u64 0, .int .u64 0, .int .u64 0]
  by_cases ho : o = 2
  · subst ho
    have e : gV 2 g = 4611686018427387903 - min g 4611686018427387903 := rfl
    rw [e]
    go_enter Try.func8, Try.ntmps8
    go_wp2_with (refine wpList_store_row rfl 25 (.tmp 8) (.tmp 19) rfl w.heap.size _ rfl rfl 25 _ K info_rank rfl (by simp [Value.oneCell']) ?_)
    all_goals refine bodyPost_ret (v := .agg #[.int .u64 s, .int .u64 p, .int .u64 (4611686018427387903 - min g 4611686018427387903)]) (results_cell_row rfl _ _ w.heap.size 25 _ (0, 0) _ rfl ?_ Try.underlying25 rfl (by kernel_rfl)) rfl ⟨rfl, below_one⟩
    · rw [show min g 4611686018427387903 = 4611686018427387903 by omega]
      exact Blk.rowT K
    · rw [show min g 4611686018427387903 = g by omega]
      exact Blk.rowT K
  · have hd : decide (o = 2) = false := by simpa using ho
    rw [show gV o g = g from if_neg ho]
    go_enter Try.func8, Try.ntmps8
    go_wp2_with (refine wpList_store_row rfl 25 (.tmp 8) (.tmp 19) rfl w.heap.size _ rfl rfl 25 _ K info_rank rfl (by simp [Value.oneCell']) ?_)
    refine bodyPost_ret (v := .agg #[.int .u64 s, .int .u64 p, .int .u64 g]) (results_cell_row rfl _ _ w.heap.size 25 _ (0, 0) _ rfl (Blk.rowT K) Try.underlying25 rfl (by kernel_rfl)) rfl ⟨rfl, below_one⟩
theorem refRank_any (s p o g : Int) (w : World) (s0 : 0 ≤ s) (s1 : s < 256) (p0 : 0 ≤ p) (p1 : p < 256) (g0 : 0 ≤ g) :
    Calls Try.prog 9 #[.int .u8 s, .int .u8 p, .int .u8 o, .int .u64 g] w fun r w' => r = .returned (RV s p (gV o g)) ∧ Below w.heap.size w w' := by
  have K := Blk.new w 25 #[.int .u64 0, .int .u64 0, .int .u64 0]
  by_cases ho : o = 2
  · subst ho
    by_cases hg : 4611686018427387903 < g
    · rw [show gV 2 g = 0 by unfold gV; rw [if_pos rfl]; omega]
      go_enter Try.func9, Try.ntmps9
      go_wp2_with (refine wpList_store_row rfl 25 (.tmp 8) (.tmp 23) rfl w.heap.size _ rfl rfl 25 _ K info_rank rfl (by simp [Value.oneCell']) ?_)
      refine bodyPost_ret (v := .agg #[.int .u64 s, .int .u64 p, .int .u64 0]) (results_cell_row rfl _ _ w.heap.size 25 _ (0, 0) _ rfl (Blk.rowT K) Try.underlying25 rfl (by kernel_rfl)) rfl ⟨rfl, below_one⟩
    · have hd : decide (4611686018427387903 < g) = false := by simpa using hg
      rw [show gV 2 g = 4611686018427387903 - g by unfold gV; rw [if_pos rfl]; omega]
      go_enter Try.func9, Try.ntmps9
      go_wp2_with (refine wpList_store_row rfl 25 (.tmp 8) (.tmp 30) rfl w.heap.size _ rfl rfl 25 _ K info_rank rfl (by simp [Value.oneCell']) ?_)
      refine bodyPost_ret (v := .agg #[.int .u64 s, .int .u64 p, .int .u64 (4611686018427387903 - g)]) (results_cell_row rfl _ _ w.heap.size 25 _ (0, 0) _ rfl (Blk.rowT K) Try.underlying25 rfl (by kernel_rfl)) rfl ⟨rfl, below_one⟩
  · have hd : decide (o = 2) = false := by simpa using ho
    rw [show gV o g = g from if_neg ho]
    go_enter Try.func9, Try.ntmps9
    go_wp2_with (refine wpList_store_row rfl 25 (.tmp 8) (.tmp 16) rfl w.heap.size _ rfl rfl 25 _ K info_rank rfl (by simp [Value.oneCell']) ?_)
    refine bodyPost_ret (v := .agg #[.int .u64 s, .int .u64 p, .int .u64 g]) (results_cell_row rfl _ _ w.heap.size 25 _ (0, 0) _ rfl (Blk.rowT K) Try.underlying25 rfl (by kernel_rfl)) rfl ⟨rfl, below_one⟩
def staleB (g n win o : Int) : Bool := !decide (o = 2) && decide (g < n) && decide (win < n - g)
theorem Stale_any (g n win o : Int) (w : World) (g0 : 0 ≤ g) (n0 : 0 ≤ n) (n1 : n < 18446744073709551616) :
    Calls Try.prog 14 #[.int .u64 g, .int .u64 n, .int .u64 win, .int .u8 o] w fun r w' => r = .returned (.bool (staleB g n win o)) ∧ w = w' := by
  unfold staleB
  go_enter Try.func14, Try.ntmps14
  by_cases ho : o = 2
  · subst ho
    go_wp2_with fail
    go_ret
    simp
  · have hd : decide (o = 2) = false := by simpa using ho
    by_cases hg : g < n
    · go_wp2_with fail
      go_ret
      simp [ho, hg]
    · have hd : decide (g < n) = false := by simpa using hg
      go_wp2_with fail
      go_ret
      simp [ho, hg]
theorem refStale_any (g n win o : Int) (w : World) (g0 : 0 ≤ g) (n0 : 0 ≤ n) (n1 : n < 18446744073709551616) :
    Calls Try.prog 15 #[.int .u64 g, .int .u64 n, .int .u64 win, .int .u8 o] w fun r w' => r = .returned (.bool (staleB g n win o)) ∧ w = w' := by
  unfold staleB
  go_enter Try.func15, Try.ntmps15
  by_cases ho : o = 2
  · subst ho
    go_wp2_with fail
    go_ret
    simp
  · have hd : decide (o = 2) = false := by simpa using ho
    by_cases hg : g < n
    · have hg2 : ¬ n ≤ g := by omega
      have hd : decide (n ≤ g) = false := by simpa using hg
      go_wp2_with fail
      go_ret
      simp [ho, hg]
    · have hg2 : n ≤ g := by omega
      go_wp2_with fail
      go_ret
      simp [ho]
      omega
end Go.Proofs.Ytchohcfcnghmlaa
