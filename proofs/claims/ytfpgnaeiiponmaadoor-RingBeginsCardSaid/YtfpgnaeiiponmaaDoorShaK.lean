import Derived.Test.YtfpgnaeiiponmaaDoorShaJ
import Derived.Deep.OwnRows
namespace Go.Proofs.YtfpgnaeiiponmaaDoor
open Go.RowKit
set_option linter.unusedVariables false

theorem made_u8 (n : Nat) : madeCells #[Value.int .u8 0] n = (IV .u8 (List.replicate n 0)).toArray := by
  apply Array.ext
  · simp [size_madeCells, IV]
  · intro i h1 h2
    simp [madeCells, IV, Nat.mod_one]
theorem mskd_snoc {B : List Int} {x : Int} {k : Nat} (h : k < B.length) : ((mskd B x).take k ++ List.replicate (B.length - k) 0).set k (bits .xor .u8 B[k] x) = (mskd B x).take (k + 1) ++ List.replicate (B.length - (k + 1)) 0 := by
  have hl : (mskd B x).length = B.length := mskd_length _ _
  have hg : (mskd B x)[k]? = some (bits .xor .u8 B[k] x) := by
    rw [mskd, List.getElem?_map, List.getElem?_eq_getElem h]; rfl
  obtain ⟨d, hd⟩ : ∃ d, B.length - k = d + 1 := ⟨B.length - k - 1, by omega⟩
  rw [List.set_append_right _ _ (by rw [List.length_take]; omega), List.length_take, show k - min k (mskd B x).length = 0 by omega, hd, show B.length - (k + 1) = d by omega, List.replicate_succ, List.set_cons_zero, List.take_add_one, hg, List.append_assoc]
  rfl

set_option maxHeartbeats 800000 in
theorem masked_any (B : List Int) (x : Int) (w : World) (hl : B.length = 64) (hb : Bytes B) (hx : 0 ≤ x ∧ x < 256) :
    Calls Tryd.prog 27 #[.agg (IV .u8 B).toArray, .int .u8 x] w fun r w' => ∃ g, r = .returned (.slice (some ⟨g, 0, none⟩) 64 64) ∧ w.heap.size ≤ g ∧ Blk w' g 5 (IV .u8 (mskd B x)).toArray ∧ Below w.heap.size w w' := by
  have hmk : ∀ W : World, (Instr.makeSlice 22 (.int .i64 64) (.int .i64 64)).run Tryd.prog W = .ok (.slice (some ⟨W.heap.size, 0, none⟩) 64 64) (W.alloc (.cells (IV .u8 (List.replicate 64 0)).toArray 5)) := fun W => by
    have h := run_make_row' (P := Tryd.prog) 22 5 (.int .u8 0) 1 Tryd.underlying22 info_u8 rfl .i64 .i64 64 (by decide) (by decide) W
    rw [made_u8] at h
    exact h
  have HL := Lib.hid hl
  have HB := Lib.hid hb
  clear hl hb
  go_enter Tryd.func27, Tryd.ntmps27
  go_wp2_with fail
  have h0 : Blk ((w.alloc (.cells (IV .u8 B).toArray 50)).alloc (.cells (IV .u8 (List.replicate 64 0)).toArray 5)) w.heap.size 50 (IV .u8 B).toArray := (Blk.new _ _ _).alloc _
  have h1 : Blk ((w.alloc (.cells (IV .u8 B).toArray 50)).alloc (.cells (IV .u8 (List.replicate 64 0)).toArray 5)) (w.heap.size + 1) 5 (IV .u8 (List.replicate 64 0)).toArray := blk_second _ _ _ _
  have hbl : Below w.heap.size w ((w.alloc (.cells (IV .u8 B).toArray 50)).alloc (.cells (IV .u8 (List.replicate 64 0)).toArray 5)) := ((Below.refl _ _).alloc (Nat.le_refl _) _).alloc (by simp) _
  show Code.wp _ _ _ _ ((w.alloc (.cells (IV .u8 B).toArray 50)).alloc (.cells (IV .u8 (List.replicate 64 0)).toArray 5))
  generalize ((w.alloc (.cells (IV .u8 B).toArray 50)).alloc (.cells (IV .u8 (List.replicate 64 0)).toArray 5)) = W at h0 h1 hbl ⊢
  clear hmk
  go_loopw [8] (fun i wr => ∃ k : Nat, k ≤ 64 ∧ i = .int .i64 k ∧ Blk wr w.heap.size 50 (IV .u8 B).toArray ∧ Blk wr (w.heap.size + 1) 5 (IV .u8 ((mskd B x).take k ++ List.replicate (B.length - k) 0)).toArray ∧ Below w.heap.size w wr) (fun i _ => 64 - (intOf i).toNat)
  case atStart => exact ⟨0, by omega, rfl, h0, by rw [HL.out]; exact h1, hbl⟩
  case round =>
    obtain ⟨k, hk, rfl, b0, b1, bel⟩ := hrel
    by_cases hkl : k < 64
    · have hkB : k < B.length := by rw [HL.out]; exact hkl
      have c0 := b0.cell_i (i := k) (x := B[k]) (List.getElem?_eq_getElem hkB)
      obtain ⟨z, hz⟩ : ∃ z, ((mskd B x).take k ++ List.replicate (B.length - k) 0)[k]? = some z := ⟨_, List.getElem?_eq_getElem (by have := HL.out; have := mskd_length B x; simp; omega)⟩
      have c1 := b1.cell_i hz
      have f1 := b1.frozen k
      have hs := b1.store_i k (bits .xor .u8 B[k] x)
      rw [mskd_snoc hkB] at hs
      have hy := HB.out B[k] (List.getElem_mem hkB)
      obtain ⟨y, hyy⟩ : ∃ y, y = B[k] := ⟨_, rfl⟩
      rw [← hyy] at c0 hs hy
      have HS := Lib.hid hs
      have B0 := Lib.hid b0
      have BL := Lib.hid bel
      clear hs b0 b1 bel hz hyy h0 h1 hbl
      go_wp2_with fail
      go_roundw
      case rel => exact ⟨k + 1, by omega, by go_num, B0.out.far (p := ⟨w.heap.size + 1, k, none⟩) (by simp) _, HS.out, BL.out.setCell (by simp) _⟩
      case measure => simp [intOf]; omega
    · obtain rfl : k = 64 := by omega
      rw [HL.out, List.take_of_length_le (by rw [mskd_length, HL.out]; omega)] at b1
      have B1 := Lib.hid b1
      have BL := Lib.hid bel
      clear b0 b1 bel h0 h1 hbl
      go_wp2_with fail
      go_ret
      exact ⟨_, rfl, by omega, by simpa using B1.out, BL.out⟩
end Go.Proofs.YtfpgnaeiiponmaaDoor
