/-
  item: the law's first question.
-/
import Derived.Test.YtpaglcojbcndoaaDoorItemH
import Derived.Deep.DeepCutAuto
import Derived.Lib.SmallJoins
namespace Go.Proofs.YtpaglcojbcndoaaDoor
open Go.RowKit
set_option linter.unusedVariables false
set_option linter.unusedSimpArgs false
theorem bytes_ofI {l : List Int} (h : l.all (fun x => decide (0 ≤ x) && decide (x < 256)) = true) : Bytes l := fun x hx => by
  have := List.all_eq_true.1 h x hx
  simpa using this
theorem inI_of {x : Int} (h : (decide (0 ≤ x) && decide (x < 4611686018427387904)) = true) : InI x := by
  simpa [InI] using h
theorem own_litI (w : World) (l : List Int) {base : Nat} (hb : base ≤ w.heap.size) (hm : l.length ≤ 1000) : Own (w.alloc (.cells (U8 l).toArray 5)) base (some ⟨w.heap.size, 0, none⟩) l.length l :=
  Own.new (l := l) (Blk.new w 5 (U8 l).toArray) hb (by simp [maxLen]; omega)
theorem rd_markI (w : World) (a b : Int) (t : TypeId) (fr : Nat × Nat) : Rd (w.alloc (.cells #[.int .u8 a, .int .u8 b] t fr)) (some ⟨w.heap.size, 0, none⟩) [a, b] := by
  refine ⟨rfl, fun _ => ⟨_, rfl, by simp, fun j u hu => ?_⟩⟩
  have := World.cell?_alloc_mark w #[.int .u8 a, .int .u8 b] t fr j
  simp only [Addr.add]
  split
  · rename_i hj; subst hj; rw [this]; simpa [U8] using hu
  · rw [Nat.zero_add, this]; simpa [U8] using hu
set_option maxRecDepth 100000 in
set_option maxHeartbeats 1600000 in
theorem awake16_any (w : World) (ht : Tab w) : Calls Tryd.prog 8 #[] w fun r w' => r = .returned (.bool true) ∧ Below w.heap.size w w' := by
  obtain ⟨W, hW⟩ : ∃ W, W = w.alloc (.cells #[.bool false, .int .u64 1, .int .u64 2, .int .u8 7] 53) := ⟨_, rfl⟩
  have bw : Below w.heap.size w W := by rw [hW]; exact (Below.refl _ _).alloc (Nat.le_refl _) _
  have kw : Blk W w.heap.size 53 #[.bool false, .int .u64 1, .int .u64 2, .int .u8 7] := by rw [hW]; exact Blk.new _ _ _
  have BG := Begin_g 1 2 7 W (ht.below bw) (inI_of rfl) (inI_of rfl)
  rw [show iencs [16, 1, 2] ++ [7] = [16, 1, 2, 7] by decide +kernel] at BG
  have BG2 := Lib.hid BG
  have BW := Lib.hid bw
  have KW := Lib.hid kw
  have HT := Lib.hid ht
  have HW := Lib.hid hW
  have k0 := kw.cell 0
  have k1 := kw.cell 1
  have k2 := kw.cell 2
  have k3 := kw.cell 3
  have zk := kw.lt
  simp only [List.getElem?_toArray, List.getElem?_cons_zero, List.getElem?_cons_succ] at k0 k1 k2 k3
  clear hW bw kw ht BG
  have kc := fun (w : World) (C : Array Value) (n c g : Nat) (hg : g = w.heap.size) => Joins.run_convert_bytes_const_at (P := Tryd.prog) w 25 5 C n c g hg Tryd.underlying25 Tryd.underlying5
  go_enter Tryd.func8, Tryd.ntmps8
  go_upto_region 2 with (fail)
  rw [← HW.out]
  go_wp2_with fail
  refine BG2.out.mono ?_
  rintro e w2 ⟨A2, c2, rfl, o2, b2⟩
  have O2 := Lib.hid o2
  have B2 := Lib.hid (BW.out.trans (b2.mono BW.out.size))
  have K2 := Lib.hid (KW.out.below b2 KW.out.lt)
  have kw := K2.out
  clear k0 k1 k2 k3 zk b2 o2 BG2 KW BW
  have k0 := kw.cell 0
  have k1 := kw.cell 1
  have k2 := kw.cell 2
  have k3 := kw.cell 3
  have zk := kw.lt
  simp only [List.getElem?_toArray, List.getElem?_cons_zero, List.getElem?_cons_succ] at k0 k1 k2 k3
  clear kw
  go_wp2_with fail
  obtain ⟨w3, hw3⟩ : ∃ w3, w3 = w2.alloc (.cells #[.int .u8 97, .int .u8 98] 5 (2, 3)) := ⟨_, rfl⟩
  have b3 : Below w2.heap.size w2 w3 := by rw [hw3]; exact (Below.refl _ _).alloc (Nat.le_refl _) _
  have r3 : Rd w3 (some ⟨w2.heap.size, 0, none⟩) [97, 98] := by rw [hw3]; exact rd_markI w2 97 98 _ _
  have B3 := Lib.hid (B2.out.trans (b3.mono B2.out.size))
  have O3 := Lib.hid (O2.out.below b3)
  have NG := Next_g 1 2 0 7 [97, 98] (some ⟨w2.heap.size, 0, none⟩) 2 w3 (HT.out.below B3.out) (inI_of rfl) (inI_of rfl) (inI_of rfl) r3 (by decide)
  rw [show iencs [0] ++ vtext [97, 98] = [0, 2, 97, 98] by decide +kernel] at NG
  have NG2 := Lib.hid NG
  rw [← hw3]
  clear NG hw3 b3 r3 k0 k1 k2 k3 zk kc B2 O2 K2
  refine NG2.out.mono ?_
  rintro e w4 ⟨A4, c4, rfl, o4, b4⟩
  have O4 := Lib.hid o4
  have P4 := Lib.hid (O3.out.below b4)
  have B4 := Lib.hid (B3.out.trans (b4.mono B3.out.size))
  have b5 : Below w4.heap.size w4 (w4.alloc (.cells #[.int .u8 16, .int .u8 1, .int .u8 2, .int .u8 7] 5)) := (Below.refl _ _).alloc (Nat.le_refl _) _
  obtain ⟨w5, hw5⟩ : ∃ w5, w5 = w4.alloc (.cells #[.int .u8 16, .int .u8 1, .int .u8 2, .int .u8 7] 5) := ⟨_, rfl⟩
  have r5 : Rd w5 (some ⟨w4.heap.size, 0, none⟩) [16, 1, 2, 7] := by rw [hw5]; exact Rd.of_own (own_litI w4 [16, 1, 2, 7] (Nat.le_refl _) (by decide))
  rw [← hw5] at b5
  have S1 := same_any A2 (some ⟨w4.heap.size, 0, none⟩) c2 4 [16, 1, 2, 7] [16, 1, 2, 7] w5 (Rd.of_own (P4.out.below b5)) r5 (bytes_ofI (by decide)) (bytes_ofI (by decide))
  rw [show sameB [16, 1, 2, 7] [16, 1, 2, 7] = true by decide] at S1
  have S1' := Lib.hid S1
  have b6 : Below w5.heap.size w5 (w5.alloc (.cells #[.int .u8 0, .int .u8 2, .int .u8 97, .int .u8 98] 5)) := (Below.refl _ _).alloc (Nat.le_refl _) _
  have r6 : Rd (w5.alloc (.cells #[.int .u8 0, .int .u8 2, .int .u8 97, .int .u8 98] 5)) (some ⟨w5.heap.size, 0, none⟩) [0, 2, 97, 98] := Rd.of_own (own_litI w5 [0, 2, 97, 98] (Nat.le_refl _) (by decide))
  have S2 := same_any A4 (some ⟨w5.heap.size, 0, none⟩) c4 4 [0, 2, 97, 98] [0, 2, 97, 98] _ (Rd.of_own ((O4.out.below b5).below b6)) r6 (bytes_ofI (by decide)) (bytes_ofI (by decide))
  rw [show sameB [0, 2, 97, 98] [0, 2, 97, 98] = true by decide] at S2
  have S2' := Lib.hid S2
  have B6 := Lib.hid ((B4.out.trans (b5.mono B4.out.size)).trans (b6.mono (Nat.le_trans B4.out.size b5.size)))
  have HW5 := Lib.hid hw5
  clear S1 S2 b5 b6 r5 r6 hw5 o4 b4
  go_wp2_with fail
  rw [← HW5.out]
  refine S1'.out.mono ?_
  rintro e w7 ⟨rfl, hh⟩
  subst hh
  go_wp2_with fail
  refine S2'.out.mono ?_
  rintro e w8 ⟨rfl, hh⟩
  subst hh
  go_wp2_with fail
  go_ret
  exact ⟨rfl, B6.out⟩
end Go.Proofs.YtpaglcojbcndoaaDoor
