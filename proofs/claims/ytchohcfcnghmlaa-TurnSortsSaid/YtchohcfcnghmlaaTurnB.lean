/-
  turn: which of two ranks is ahead; the program's and the reference's.
-/
import Derived.Test.YtchohcfcnghmlaaTurnA
import Derived.Deep.Cut
import Derived.Deep.RegionHeld
import Derived.BigQuiet
namespace Go.Proofs.Ytchohcfcnghmlaa
open Go.RowKit
set_option linter.unusedVariables false
set_option linter.unusedSimpArgs false
/-- Three numbers. -/
structure R3 where
  x : Int
  y : Int
  z : Int
abbrev R3.val (a : R3) : Value := RV a.x a.y a.z
abbrev R3.cs (a : R3) : Array Value := #[.int .u64 a.x, .int .u64 a.y, .int .u64 a.z]
theorem below_dT {B : Nat} {a w : World} (h : Below B a w) (n : Nat) : Below B a (w.drewN n) := ⟨h.os, h.tape, h.output, h.size, h.block⟩
def cmp3 (a b : R3) : Int := if cmpN a.x b.x ≠ 0 then cmpN a.x b.x else if cmpN a.y b.y ≠ 0 then cmpN a.y b.y else cmpN a.z b.z
def less3 (a b : R3) : Bool := if a.x ≠ b.x then decide (a.x < b.x) else if a.y ≠ b.y then decide (a.y < b.y) else decide (a.z < b.z)
theorem cmpN_zero (x y : Int) : cmpN x y = 0 ↔ x = y := by
  unfold cmpN
  split
  · omega
  · split <;> omega
theorem cmpN_neg (x y : Int) : cmpN x y < 0 ↔ x < y := by
  unfold cmpN
  split
  · omega
  · split <;> omega
theorem cmpN_b (x y : Int) : -1 ≤ cmpN x y ∧ cmpN x y ≤ 1 := by
  unfold cmpN
  split
  · omega
  · split <;> omega
theorem less3_cmp (a b : R3) : decide (cmp3 a b < 0) = less3 a b := by
  unfold cmp3 less3
  simp only [ne_eq, cmpN_zero]
  split
  · simp only [cmpN_neg]
  · split
    · simp only [cmpN_neg]
    · simp only [cmpN_neg]
set_option maxHeartbeats 1600000 in
theorem sCompare_any (g1 g2 : Nat) (a b : R3) (w : World) (h1 : Blk w g1 25 a.cs) (h2 : Blk w g2 25 b.cs) :
    Calls Try.prog 20 #[.slice (some ⟨g1, 0, none⟩) 3 3, .slice (some ⟨g2, 0, none⟩) 3 3] w fun r w' => r = .returned (.int .i64 (cmp3 a b)) ∧ w = w' := by
  obtain ⟨x1, x2, x3⟩ := a
  obtain ⟨y1, y2, y3⟩ := b
  have c0 := h1.cell 0
  have c1 := h1.cell 1
  have c2 := h1.cell 2
  have d0 := h2.cell 0
  have d1 := h2.cell 1
  have d2 := h2.cell 2
  simp only [List.getElem?_toArray, List.getElem?_cons_zero, List.getElem?_cons_succ] at c0 c1 c2 d0 d1 d2
  have z1 := h1.lt
  have z2 := h2.lt
  have C1 := fun W => Compare_any x1 y1 W
  have C2 := fun W => Compare_any x2 y2 W
  have C3 := fun W => Compare_any x3 y3 W
  have e : ∀ r, cmp3 ⟨x1, x2, x3⟩ ⟨y1, y2, y3⟩ = r ↔ (if cmpN x1 y1 ≠ 0 then cmpN x1 y1 else if cmpN x2 y2 ≠ 0 then cmpN x2 y2 else cmpN x3 y3) = r := fun r => Iff.rfl
  rw [show cmp3 ⟨x1, x2, x3⟩ ⟨y1, y2, y3⟩ = (if cmpN x1 y1 ≠ 0 then cmpN x1 y1 else if cmpN x2 y2 ≠ 0 then cmpN x2 y2 else cmpN x3 y3) from rfl]
  generalize cmpN x1 y1 = r1 at *
  generalize cmpN x2 y2 = r2 at *
  generalize cmpN x3 y3 = r3 at *
  have H1 := Lib.hid C1
  have H2 := Lib.hid C2
  have H3 := Lib.hid C3
  clear C1 C2 C3 e h1 h2
  go_enter Try.func20, Try.ntmps20
  go_wp2_with fail
  go_loopw [11] (fun i wr => ∃ k : Nat, k ≤ 3 ∧ i = .int .i64 k ∧ w = wr ∧ (0 < k → r1 = 0) ∧ (1 < k → r2 = 0) ∧ (2 < k → r3 = 0)) (fun i _ => 3 - (intOf i).toNat)
  case atStart => exact ⟨0, by omega, rfl, rfl, by omega, by omega, by omega⟩
  case round =>
    obtain ⟨k, hk, rfl, rfl, p1, p2, p3⟩ := hrel
    rcases (show k = 0 ∨ k = 1 ∨ k = 2 ∨ k = 3 by omega) with rfl | rfl | rfl | rfl
    · clear p1 p2 p3 hk
      go_wp2_with fail
      refine (H1.out _).mono ?_
      rintro e w3 ⟨rfl, rfl⟩
      by_cases hr : r1 = 0
      · subst hr
        go_wp2_with fail
        go_roundw
        case rel => exact ⟨1, by omega, by go_num, by simp⟩
        case measure => simp [intOf]
      · have hd : decide (r1 = 0) = false := by simpa using hr
        go_wp2_with fail
        go_ret
        first | (simp [hr]; done) | exact ⟨rfl, rfl⟩
    · have q1 := p1 (by omega)
      subst q1
      clear p1 p2 p3 hk
      go_wp2_with fail
      refine (H2.out _).mono ?_
      rintro e w3 ⟨rfl, rfl⟩
      by_cases hr : r2 = 0
      · subst hr
        go_wp2_with fail
        go_roundw
        case rel => exact ⟨2, by omega, by go_num, by simp⟩
        case measure => simp [intOf]
      · have hd : decide (r2 = 0) = false := by simpa using hr
        go_wp2_with fail
        go_ret
        simp [hr]
    · have q1 := p1 (by omega)
      have q2 := p2 (by omega)
      subst q1
      subst q2
      clear p1 p2 p3 hk
      go_wp2_with fail
      refine (H3.out _).mono ?_
      rintro e w3 ⟨rfl, rfl⟩
      by_cases hr : r3 = 0
      · subst hr
        go_wp2_with fail
        go_roundw
        case rel => exact ⟨3, by omega, by go_num, by simp⟩
        case measure => simp [intOf]
      · have hd : decide (r3 = 0) = false := by simpa using hr
        go_wp2_with fail
        go_ret
        simp
    · have q1 := p1 (by omega)
      have q2 := p2 (by omega)
      have q3 := p3 (by omega)
      subst q1
      subst q2
      subst q3
      clear p1 p2 p3 hk
      go_wp2_with fail
      go_ret
      simp
theorem compare_any (a b : R3) (w : World) : Calls Try.prog 17 #[a.val, b.val] w fun r w' => r = .returned (.int .i64 (cmp3 a b)) ∧ Below w.heap.size w w' := by
  obtain ⟨W, hW⟩ : ∃ W, W = (w.alloc (.cells a.cs 25)).alloc (.cells b.cs 25) := ⟨_, rfl⟩
  have K1 : Blk W w.heap.size 25 a.cs := by rw [hW]; exact (Blk.new _ _ _).alloc _
  have K2 : Blk W (w.heap.size + 1) 25 b.cs := by
    rw [hW]
    have := Blk.new (w.alloc (.cells a.cs 25)) 25 b.cs
    simpa using this
  have bb : Below w.heap.size w W := by rw [hW]; exact ((Below.refl _ _).alloc (Nat.le_refl _) _).alloc (by simp) _
  have C := fun n => sCompare_any w.heap.size (w.heap.size + 1) a b (W.drewN n) K1 K2
  obtain ⟨x1, x2, x3⟩ := a
  obtain ⟨y1, y2, y3⟩ := b
  unfold R3.val RV R3.cs at *
  simp only at hW C ⊢
  generalize cmp3 ⟨x1, x2, x3⟩ ⟨y1, y2, y3⟩ = r at *
  go_enter Try.func17, Try.ntmps17
  go_upto_region 1 with (fail)
  rw [← hW]
  have z1 := K1.lt
  have z2 := K2.lt
  clear hW
  go_quiet ((go_at_call 20; exact Calls.quiet_of_same ((C _).mono fun r w' q => ⟨q.1, q.2.symm⟩)))
  go_wp2_with fail
  go_ret
  exact ⟨rfl, below_dT bb _⟩
theorem Less_any (a b : R3) (w : World) : Calls Try.prog 10 #[a.val, b.val] w fun r w' => r = .returned (.bool (less3 a b)) ∧ Below w.heap.size w w' := by
  obtain ⟨W, hW⟩ : ∃ W, W = (w.alloc (.cells a.cs 25)).alloc (.cells b.cs 25) := ⟨_, rfl⟩
  have K1 : Blk W w.heap.size 25 a.cs := by rw [hW]; exact (Blk.new _ _ _).alloc _
  have K2 : Blk W (w.heap.size + 1) 25 b.cs := by
    rw [hW]
    have := Blk.new (w.alloc (.cells a.cs 25)) 25 b.cs
    simpa using this
  have bb : Below w.heap.size w W := by rw [hW]; exact ((Below.refl _ _).alloc (Nat.le_refl _) _).alloc (by simp) _
  have C := compare_any a b W
  rw [← less3_cmp]
  obtain ⟨x1, x2, x3⟩ := a
  obtain ⟨y1, y2, y3⟩ := b
  unfold R3.val RV R3.cs at *
  simp only at hW C K1 K2 ⊢
  generalize cmp3 ⟨x1, x2, x3⟩ ⟨y1, y2, y3⟩ = r at *
  have c0 := K1.cell 0
  have c1 := K1.cell 1
  have c2 := K1.cell 2
  have d0 := K2.cell 0
  have d1 := K2.cell 1
  have d2 := K2.cell 2
  simp only [List.getElem?_toArray, List.getElem?_cons_zero, List.getElem?_cons_succ] at c0 c1 c2 d0 d1 d2
  have z1 := K1.lt
  have z2 := K2.lt
  go_enter Try.func10, Try.ntmps10
  go_upto_region 1 with (fail)
  rw [← hW]
  clear hW
  go_wp2_with fail
  refine C.mono ?_
  rintro e w3 ⟨rfl, b3⟩
  go_wp2_with fail
  go_ret
  exact ⟨rfl, bb.trans (b3.mono bb.size)⟩
theorem refLess_any (a b : R3) (w : World) : Calls Try.prog 11 #[a.val, b.val] w fun r w' => r = .returned (.bool (less3 a b)) ∧ Below w.heap.size w w' := by
  obtain ⟨W, hW⟩ : ∃ W, W = (w.alloc (.cells a.cs 25)).alloc (.cells b.cs 25) := ⟨_, rfl⟩
  have K1 : Blk W w.heap.size 25 a.cs := by rw [hW]; exact (Blk.new _ _ _).alloc _
  have K2 : Blk W (w.heap.size + 1) 25 b.cs := by
    rw [hW]
    have := Blk.new (w.alloc (.cells a.cs 25)) 25 b.cs
    simpa using this
  have bb : Below w.heap.size w W := by rw [hW]; exact ((Below.refl _ _).alloc (Nat.le_refl _) _).alloc (by simp) _
  obtain ⟨x1, x2, x3⟩ := a
  obtain ⟨y1, y2, y3⟩ := b
  unfold R3.val RV R3.cs less3 at *
  simp only at hW K1 K2 ⊢
  obtain ⟨g1, hg1⟩ : ∃ g, g = w.heap.size := ⟨_, rfl⟩
  obtain ⟨g2, hg2⟩ : ∃ g, g = w.heap.size + 1 := ⟨_, rfl⟩
  have E := Lib.hid (And.intro hg1 hg2)
  rw [← hg2] at K2
  rw [← hg1] at K1
  have HK1 := Lib.hid K1
  have HK2 := Lib.hid K2
  have HB := Lib.hid bb
  go_enter Try.func11, Try.ntmps11
  go_upto_region 1 with (fail)
  rw [← hW, ← hg2, ← hg1]
  clear hW K1 K2 bb hg1 hg2
  go_wp2_with fail
  go_loopw [6] (fun i wr => ∃ (k : Nat), k ≤ 3 ∧ i = .int .i64 k ∧ Blk wr g1 25 #[.int .u64 x1, .int .u64 x2, .int .u64 x3] ∧ Blk wr g2 25 #[.int .u64 y1, .int .u64 y2, .int .u64 y3] ∧ Below w.heap.size w wr ∧ (0 < k → x1 = y1) ∧ (1 < k → x2 = y2) ∧ (2 < k → x3 = y3)) (fun i _ => 3 - (intOf i).toNat)
  case atStart => exact ⟨0, by omega, rfl, HK1.out, HK2.out, HB.out, by omega, by omega, by omega⟩
  case round =>
    obtain ⟨k, hk, rfl, K1, K2, B1, p1, p2, p3⟩ := hrel
    have c0 := K1.cell 0
    have c1 := K1.cell 1
    have c2 := K1.cell 2
    have d0 := K2.cell 0
    have d1 := K2.cell 1
    have d2 := K2.cell 2
    simp only [List.getElem?_toArray, List.getElem?_cons_zero, List.getElem?_cons_succ] at c0 c1 c2 d0 d1 d2
    have z1 := K1.lt
    have z2 := K2.lt
    have L1 := Lib.hid K1
    have L2 := Lib.hid K2
    have LB := Lib.hid B1
    clear K1 K2 B1
    rcases (show k = 0 ∨ k = 1 ∨ k = 2 ∨ k = 3 by omega) with rfl | rfl | rfl | rfl
    · skip
      clear p1 p2 p3 hk
      by_cases hr : x1 = y1
      · subst hr
        go_wp2_with fail
        go_region
        go_wp2_with fail
        go_roundw
        case rel => exact ⟨1, by omega, by go_num, L1.out.drewN 1, L2.out.drewN 1, below_dT LB.out 1, by simp⟩
        case measure => simp [intOf]
      · have hd : decide (x1 = y1) = false := by simpa using hr
        go_wp2_with fail
        go_region
        go_wp2_with fail
        go_region
        go_wp2_with fail
        go_ret
        exact ⟨by simp [hr], below_dT LB.out 2⟩
    · skip
      have q1 := p1 (by omega)
      subst q1
      clear p1 p2 p3 hk
      by_cases hr : x2 = y2
      · subst hr
        go_wp2_with fail
        go_region
        go_wp2_with fail
        go_roundw
        case rel => exact ⟨2, by omega, by go_num, L1.out.drewN 1, L2.out.drewN 1, below_dT LB.out 1, by simp⟩
        case measure => simp [intOf]
      · have hd : decide (x2 = y2) = false := by simpa using hr
        go_wp2_with fail
        go_region
        go_wp2_with fail
        go_region
        go_wp2_with fail
        go_ret
        exact ⟨by simp [hr], below_dT LB.out 2⟩
    · skip
      have q1 := p1 (by omega)
      subst q1
      have q2 := p2 (by omega)
      subst q2
      clear p1 p2 p3 hk
      by_cases hr : x3 = y3
      · subst hr
        go_wp2_with fail
        go_region
        go_wp2_with fail
        go_roundw
        case rel => exact ⟨3, by omega, by go_num, L1.out.drewN 1, L2.out.drewN 1, below_dT LB.out 1, by simp⟩
        case measure => simp [intOf]
      · have hd : decide (x3 = y3) = false := by simpa using hr
        go_wp2_with fail
        go_region
        go_wp2_with fail
        go_region
        go_wp2_with fail
        go_ret
        exact ⟨by simp [hr], below_dT LB.out 2⟩
    · have q1 := p1 (by omega)
      have q2 := p2 (by omega)
      have q3 := p3 (by omega)
      subst q1
      subst q2
      subst q3
      clear p1 p2 p3 hk
      go_wp2_with fail
      go_ret
      exact ⟨by simp, LB.out⟩
end Go.Proofs.Ytchohcfcnghmlaa
