import Derived.Test.YtpaglcojbcndoaaDoorVintC
namespace Go.Proofs.YtpaglcojbcndoaaDoor
open Go.RowKit
set_option linter.unusedVariables false

theorem madeCells_u8 (n : Nat) : madeCells (Value.int .u8 0).cells n = (U8 (List.replicate n 0)).toArray := by
  have h : madeCells (Value.int .u8 0).cells n = (Array.range n).map fun _ => Value.int .u8 0 := by
    unfold madeCells
    refine Array.map_congr_left fun i _ => ?_
    simp [Value.cells, Nat.mod_one]
  rw [h]
  apply Array.ext'
  simp [U8, List.map_const']
theorem mk_u8 (n : Nat) (z z' : Int) (hz : z = n) (hz' : z' = n) (hn : n ≤ 70368744177664) (w : World) :
    (Instr.makeSlice 25 (.int .i64 z) (.int .i64 z')).run Tryd.prog w = .ok (.slice (some ⟨w.heap.size, 0, none⟩) n n) (w.alloc (.cells (U8 (List.replicate n 0)).toArray 5)) := by
  subst hz; subst hz'
  obtain ⟨i0, hi0, hz0, hz1, hz2⟩ := info_parts info_u8
  have hr := run_make (P := Tryd.prog) w 25 5 i0 _ Tryd.underlying25 hi0 hz0 .i64 .i64 (n : Int) (n : Int) (by omega) (by omega) (by rw [hz2]; omega) (by omega)
  simp only [Int.toNat_natCast] at hr
  rw [hr, hz1, Nat.mul_one, madeCells_u8]

/-- A store into a row of bytes. -/
theorem Blk.store_u8 {w : World} {g : Nat} {l : List Int} (h : Blk w g 5 (U8 l).toArray) (i : Nat) (x : Int) : Blk (w.setCell ⟨g, i, none⟩ (.int .u8 x)) g 5 (U8 (l.set i x)).toArray := by
  have := h.set_ i (.int .u8 x)
  simpa [U8, List.map_set] using this
theorem Blk.cell_u8 {w : World} {g : Nat} {l : List Int} (h : Blk w g 5 (U8 l).toArray) {i : Nat} {x : Int} (hx : l[i]? = some x) : w.cell? ⟨g, i, none⟩ = some (.int .u8 x) := by
  rw [h.cell]; simp [U8, hx]

set_option maxRecDepth 100000 in
set_option maxHeartbeats 1600000 in
theorem wide_ok (n s : Int) (k : Nat) (b t : Int) (w : World) (ht : Tab w) (hs : IsSize s k b t) (h0 : 0 ≤ n) (hn : n < b) :
    Calls Tryd.prog 62 #[.int .u64 n, .int .i64 s] w fun e w' =>
      ∃ A' c', e = .returned (.tuple #[.slice A' (wenc n k).length c', .int .i64 0]) ∧ Own w' w.heap.size A' c' (wenc n k) ∧ Below w.heap.size w w' := by
  have hsk : s = k := by rcases hs with h | h | h | h <;> obtain ⟨rfl, rfl, _⟩ := h <;> rfl
  subst hsk
  have hk8 : 1 ≤ k ∧ k ≤ 8 := by unfold IsSize at hs; omega
  have hb : (k : Int) = 1 ∧ b = 64 ∨ (k : Int) = 2 ∧ b = 16384 ∨ (k : Int) = 4 ∧ b = 1073741824 ∨ (k : Int) = 8 ∧ b = 4611686018427387904 := by unfold IsSize at hs; omega
  have htz : (k : Int) = 1 ∧ t = 0 ∨ (k : Int) = 2 ∧ t = 1 ∨ (k : Int) = 4 ∧ t = 2 ∨ (k : Int) = 8 ∧ t = 3 := by unfold IsSize at hs; omega
  have hmk := mk_u8 k k k rfl rfl (by omega)
  have HB := Lib.hid hb
  have HTZ := Lib.hid htz
  have HS := Lib.hid hs
  have hnb : ¬ b ≤ n := by omega
  have HN := Lib.hid hn
  obtain ⟨hk1, hk8⟩ := hk8
  clear hb htz hs hn
  have ways : ((k : Int) == 1) = true ∨ ((k : Int) == 1) = false ∧ ((k : Int) == 2) = true ∨ ((k : Int) == 1) = false ∧ ((k : Int) == 2) = false ∧ ((k : Int) == 4) = true ∨ ((k : Int) == 1) = false ∧ ((k : Int) == 2) = false ∧ ((k : Int) == 4) = false ∧ ((k : Int) == 8) = true := by
    rcases HS.out with h | h | h | h <;> obtain ⟨h, _⟩ := h <;> rw [h] <;> decide
  rcases ways with q1 | ⟨q1, q2⟩ | ⟨q1, q2, q3⟩ | ⟨q1, q2, q3, q4⟩
  all_goals
    go_enter Tryd.func62, Tryd.ntmps62
    go_wp2_with (go_at_call 68; go_must (refine (bound_any k b _ HB.out).mono ?_); rintro e w' ⟨rfl, rfl⟩)
    go_loopw [21] (fun i wr => ∃ j : Nat, j ≤ k ∧ i = .int .i64 j ∧ Blk wr w.heap.size 5 (U8 (List.replicate (k - j) 0 ++ be n j)).toArray ∧ Below w.heap.size w wr) (fun i _ => k - (intOf i).toNat)
    case atStart => exact ⟨0, by omega, rfl, by rw [show List.replicate (k - 0) (0 : Int) ++ be n 0 = List.replicate k 0 by simp [be]]; exact Blk.new w _ _, (Below.refl _ _).alloc (Nat.le_refl _) _⟩
    case round =>
      obtain ⟨j, hj, rfl, hblk, hbel⟩ := hrel
      by_cases hjk : j < k
      · have hcell : wr.cell? ⟨w.heap.size, k - 1 - j, none⟩ = some (.int .u8 0) := hblk.cell_u8 (be_zero n k j hjk)
        have hfr : wr.frozen? ⟨w.heap.size, k - 1 - j, none⟩ = false := hblk.frozen _
        go_wp2
        go_roundw
        case rel =>
          refine ⟨j + 1, by omega, by go_num, ?_, hbel.setCell (Nat.le_refl _) _⟩
          have := hblk.store_u8 (k - 1 - j) (n / 2 ^ (8 * j) % 256)
          rw [pow_shift, be_step n k j hjk, ← pow_shift] at this
          exact this
        case measure => simp [intOf]; omega
      · obtain rfl : j = k := by omega
        obtain ⟨m, hm⟩ : ∃ m, j = m + 1 := ⟨j - 1, by omega⟩
        have hbe : List.replicate (j - j) (0 : Int) ++ be n j = (n / 256 ^ m % 256) :: be n m := by rw [hm]; simp [be]
        rw [hbe] at hblk
        have hcell : wr.cell? ⟨w.heap.size, 0, none⟩ = some (.int .u8 (n / 256 ^ m % 256)) := hblk.cell_u8 rfl
        have hfr : wr.frozen? ⟨w.heap.size, 0, none⟩ = false := hblk.frozen _
        have hsz : w.heap.size < wr.heap.size := hblk.lt
        have htr : Tab wr := ht.below hbel
        have HM := Lib.hid hm
        clear hm hbe
        obtain ⟨x, hx⟩ : ∃ x, x = n / 256 ^ m % 256 := ⟨_, rfl⟩
        rw [← hx] at hblk hcell
        have HX := Lib.hid hx
        clear hx
        go_wp2_with fail
        refine wp_region_still_tail 10 (by kernel_rfl) (by kernel_rfl) ?_
        simp only [List.take_succ_cons, List.take_zero, List.drop_succ_cons, List.drop_zero]
        obtain ⟨w2, hw2⟩ : ∃ w2, w2 = wr.drew := ⟨_, rfl⟩
        have hblk2 : Blk w2 w.heap.size 5 (U8 (x :: be n m)).toArray := by rw [hw2]; exact hblk
        have hbel2 : Below w.heap.size w w2 := by rw [hw2]; exact hbel.drew
        have hcell2 : w2.cell? ⟨w.heap.size, 0, none⟩ = some (.int .u8 x) := hblk2.cell_u8 rfl
        have hfr2 : w2.frozen? ⟨w.heap.size, 0, none⟩ = false := hblk2.frozen _
        have htr2 : Tab w2 := ht.below hbel2
        show wpStill _ _ wr.drew (fun a' => wpList _ _ _ _ a' wr.drew) _ _
        rw [← hw2]
        have hj0 : 0 < j := by omega
        clear hw2 hblk hbel hcell hfr htr hsz
        have hwj : IntKind.u64.wrap (j : Int) = j := by rw [IntKind.wrap_u64]; omega
        have ht03 : 0 ≤ t ∧ t ≤ 3 := by have := HTZ.out; omega
        obtain ⟨ht0, ht3⟩ := ht03
        repeat still_step
        still_call ((tzs_any j t w2 htr2 HTZ.out).mono fun e w' ⟨h1, h2⟩ => ⟨h1, h2.symm⟩)
        repeat still_step
        refine wpStill_nil ?_
        go_wp2
        go_ret2
        have hx2 := top_small HS.out HM.out h0 HN.out
        rw [← HX.out] at hx2
        have hl := wenc_length n j hk1
        have hfin := hblk2.store_u8 0 (bits BinOp.or IntKind.u8 x (t * 64))
        rw [or_tag x t hx2.1 hx2.2 ht0 ht3] at hfin ⊢
        have hw : (x :: be n m).set 0 (x + 64 * t) = wenc n j := by
          rw [List.set_cons_zero, wenc, vtag_of HS.out, HX.out, HM.out]; rfl
        rw [hw] at hfin
        have hown := Own.new hfin (Nat.le_refl _) (by rw [hl]; unfold maxLen; omega)
        rw [hl] at hown ⊢
        exact ⟨_, j, rfl, hown, hbel2.setCell (Nat.le_refl _) _⟩

end Go.Proofs.YtpaglcojbcndoaaDoor
