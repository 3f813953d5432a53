/-
  talk: New (a server), Up.
-/
import Derived.Test.YtdcjnkakibeigaaDoorTalkE
namespace Go.Proofs.YtdcjnkakibeigaaDoor
open Go.RowKit
set_option linter.unusedVariables false
set_option linter.unusedSimpArgs false
/-- A server's session, new. -/
def svNew (lets : Int) (B1 B2 : Nat) : SV := ⟨true, false, 0, 1, 0, none, 0, 0, none, 0, 0, B1, 0, lets, none, 0, 0, none, 0, 0, B2, none, 0, 0⟩
structure NewTo (w w' : World) (lets : Int) (r : Ending) : Prop where
  ex : ∃ g B1 B2, r = .returned (.pointer (some ⟨g, 0, none⟩)) ∧ w.heap.size ≤ g ∧ Blk w' g 66 (svNew lets B1 B2).cells ∧ MapE w' B1 0 [] ∧ MapE w' B2 0 [] ∧ w.heap.size ≤ B1 ∧ w.heap.size ≤ B2 ∧ B1 ≠ B2
  bel : Below w.heap.size w w'
set_option maxHeartbeats 800000 in
theorem New_srv (lets : Int) (w : World) (h0 : 0 ≤ lets) (h1 : lets < 1152921504606846976) : Calls Tryd.prog 18 #[.bool true, .int .u64 lets] w fun r w' => NewTo w w' lets r := by
  have hmin : min lets 1152921504606846976 = lets := by omega
  have hd : decide (lets ≤ 1152921504606846976) = true := by simpa using (by omega)
  have C1 := Lib.hid (fun b W => newSide_any b W)
  go_enter Tryd.func18, Tryd.ntmps18
  go_wp2_with fail
  refine (C1.out true w).mono ?_
  rintro e w1 ⟨B1, rfl, m1, z1, b1⟩
  have hm1 := Lib.hid m1
  have l1 := m1.lt
  have hb1 := Lib.hid b1
  rw [if_pos rfl]
  unfold sdC
  clear m1 b1
  go_wp2_with fail
  refine (C1.out false w1).mono ?_
  rintro e w2 ⟨B2, rfl, m2, z2, b2⟩
  rw [if_neg (by simp)]
  unfold sdC
  have hm2 := Lib.hid m2
  have hb2 := Lib.hid b2
  have hm1 := Lib.hid (hm1.out.below b2)
  have hne : B1 ≠ B2 := by omega
  have hb3 := Lib.hid (hb1.out.trans (b2.mono hb1.out.size))
  obtain ⟨NC, hNC⟩ : ∃ NC : Array Value, NC = #[.bool true, .bool false, .int .u64 0, .int .u64 1, .int .u64 0, .slice none 0 0, .slice none 0 0, .map (some B1), .int .u64 0, .int .u64 0, .slice none 0 0, .slice none 0 0, .map (some B2), .slice none 0 0] := ⟨_, rfl⟩
  obtain ⟨w3, hw3⟩ : ∃ v, v = w2.alloc (.cells NC 66) := ⟨_, rfl⟩
  obtain ⟨g, hg⟩ : ∃ g, g = w2.heap.size := ⟨_, rfl⟩
  have K3 := Lib.hid (show Blk w3 g 66 #[.bool true, .bool false, .int .u64 0, .int .u64 1, .int .u64 0, .slice none 0 0, .slice none 0 0, .map (some B1), .int .u64 0, .int .u64 0, .slice none 0 0, .slice none 0 0, .map (some B2), .slice none 0 0] by rw [hw3, hg, ← hNC]; exact Blk.new _ _ _)
  have b3 : Below w2.heap.size w2 w3 := by rw [hw3]; exact (Below.refl _ _).alloc (Nat.le_refl _) _
  have M1 := Lib.hid (hm1.out.below b3)
  have M2 := Lib.hid (hm2.out.below b3)
  have B3 := Lib.hid (hb3.out.trans (b3.mono hb3.out.size))
  have zg : w.heap.size ≤ g := by have := hb3.out.size; omega
  rw [hNC] at hw3
  have HW3 := Lib.hid hw3
  have HG := Lib.hid hg
  have z2 : w.heap.size ≤ B2 := by have := hb1.out.size; omega
  clear hNC hw3 hg b3 hm1 hm2 hb1 hb2 hb3 b2 m2 l1 C1
  go_upto_region 2 with (fail)
  rw [← HW3.out, ← HG.out]
  have d9 := K3.out.cell 9
  have f9 := K3.out.frozen 9
  simp only [List.getElem?_toArray, List.getElem?_cons_zero, List.getElem?_cons_succ] at d9
  have z9 := K3.out.lt
  go_wp2_with fail
  go_ret
  have gs : w3.grownBy (w3.setCell ⟨g, 9, none⟩ (.int .u64 lets)) (some g) := only_set (only_refl w3 (some g)) (p := ⟨g, 9, none⟩) rfl _
  exact ⟨⟨g, B1, B2, rfl, zg, K3.out.set_ 9 _, M1.out.kept gs (fun e => M1.out.ne_blk K3.out (by injection e with e; exact e.symm)), M2.out.kept gs (fun e => M2.out.ne_blk K3.out (by injection e with e; exact e.symm)), by assumption, z2, hne⟩, B3.out.setCell (p := ⟨g, 9, none⟩) zg _⟩
end Go.Proofs.YtdcjnkakibeigaaDoor
