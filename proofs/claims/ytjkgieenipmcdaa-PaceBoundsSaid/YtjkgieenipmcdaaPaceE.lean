/-
  What the laws ask first.
-/
import Derived.Test.YtjkgieenipmcdaaPaceD
namespace Go.Proofs.Ytjkgieenipmcdaa
open Go.RowKit
set_option linter.unusedVariables false

theorem Sample_any (g : Nat) (c : CK) (x d : Int) (w : World) (h : Clk w g c) (ok : CkOk c) (hx : 0 ≤ x) (hx1 : x < 18446744073709551616) (hd : 0 ≤ d) (hd1 : d < 18446744073709551616) :
    Calls Try.prog 10 #[.pointer (some ⟨g, 0, none⟩), .int .u64 x, .int .u64 d] w fun r w' => r = .returned (.tuple #[]) ∧ Clk w' g (ckS c x d) ∧ w.grownBy w' (some g) := by
  rcases hs : c.sp with _ | _
  · exact Sample_first g c x d w h hs hx hx1 hd hd1
  · exact Sample_next g c x d w h ok hs hx hx1 hd hd1

def cA : CK := ckS ck0 20 0
def cB : CK := ckS cA 28 0
theorem cA_ok : CkOk cA := ckS_ok ck0_ok (by omega) (by omega)
theorem cB_ok : CkOk cB := ckS_ok cA_ok (by omega) (by omega)
theorem cB_le : cB.le = 20 := by decide
theorem cB_sm : cB.sm = 21 := by decide
theorem cB_va : cB.va = 9 := by decide
theorem cB_w : ckW cB 0 = 59 := by decide
def mA : MT := (mSend mt0 1200).1
def mB : MT := (mLost mA 1200 1 5).1
theorem mA_ok : MtOk mA := mSend_ok mt0_ok
theorem mB_wi : mB.wi = 6000 := by decide
theorem mB_e : (mLost mA 1200 1 5).2 = 0 := by decide
theorem mA_e : (mSend mt0 1200).2 = 0 := by decide

theorem clk_gb {w w' : World} {g h : Nat} {c : CK} (a : Clk w g c) (b : w.grownBy w' (some h)) (hne : g ≠ h) : Clk w' g c := Blk.grown a b (by simpa using hne)
theorem mtr_gb {w w' : World} {g h : Nat} {m : MT} (a : Mtr w g m) (b : w.grownBy w' (some h)) (hne : g ≠ h) : Mtr w' g m := Blk.grown a b (by simpa using hne)
theorem below_gb {B : Nat} {a w w' : World} {g : Nat} (h : Below B a w) (k : w.grownBy w' (some g)) (hg : B ≤ g) (hB : B ≤ w.heap.size) : Below B a w' :=
  ⟨k.os.trans h.os, k.tape.trans h.tape, k.output.trans h.output, Nat.le_trans h.size k.size, fun i hi => (k.block i (by omega) (by intro e; injection e with e; omega)).trans (h.block i hi)⟩

theorem below_drewN {B : Nat} {a w : World} (h : Below B a w) (k : Nat) : Below B a (w.drewN k) := ⟨h.os, h.tape, h.output, h.size, h.block⟩
theorem awake8_any (w : World) : Calls Try.prog 8 #[] w fun r w' => r = .returned (.bool true) ∧ Below w.heap.size w w' := by
  go_enter Try.func8, Try.ntmps8
  go_wp2_with fail
  refine (NewClock_any _).mono ?_
  rintro e w1 ⟨g, rfl, k0, l0, b0⟩
  go_wp2_with fail
  refine (NewMeter_any _).mono ?_
  rintro e w2 ⟨m, rfl, j0, l1, b1⟩
  have hg := k0.lt
  have hm := j0.lt
  have k1 := k0.below b1 hg
  have hgm : g ≠ m := by omega
  have bb1 : Below w.heap.size w w2 := b0.trans (b1.mono (by have := b0.size; omega))
  have z1 := b1.size
  clear b0 b1 k0
  go_wp2_with fail
  refine (Sample_any g ck0 20 0 _ k1 ck0_ok (by omega) (by omega) (by omega) (by omega)).mono ?_
  rintro e w3 ⟨rfl, k2, g2⟩
  have j2 := mtr_gb j0 g2 (Ne.symm hgm)
  have bb2 := below_gb bb1 g2 l0 bb1.size
  clear g2 k1 j0 bb1
  go_wp2_with fail
  refine (Sample_any g cA 28 0 _ k2 cA_ok (by omega) (by omega) (by omega) (by omega)).mono ?_
  rintro e w4 ⟨rfl, k3, g3⟩
  have j3 := mtr_gb j2 g3 (Ne.symm hgm)
  have bb3 := below_gb bb2 g3 l0 bb2.size
  clear g3 k2 j2 bb2
  go_wp2_with fail
  refine (Told_clock g cB _ k3).mono ?_
  rintro e w5 ⟨rfl, q5, rfl⟩
  rw [cB_le, cB_sm, cB_va]
  go_wp2_with fail
  refine (Send_any m mt0 1200 _ (j3.drewN _) mt0_ok (by decide)).mono ?_
  rintro e w6 ⟨rfl, j4, g4⟩
  have k4 := clk_gb (k3.drewN q5) g4 hgm
  have bb4 := below_gb (below_drewN bb3 q5) g4 (by omega) bb3.size
  rw [mA_e]
  clear g4 k3 j3 bb3
  go_wp2_with fail
  refine (MLost_any m mA 1200 1 5 _ j4 mA_ok (by decide) (by omega) (by omega) (by omega) (by omega)).mono ?_
  rintro e w7 ⟨rfl, j5, g5⟩
  have k5 := clk_gb k4 g5 hgm
  have bb5 := below_gb bb4 g5 (by omega) bb4.size
  rw [mB_e]
  clear g5 k4 j4 bb4
  go_wp2_with fail
  refine (Told_meter m mB _ j5).mono ?_
  rintro e w8 ⟨rfl, q8, rfl⟩
  rw [mB_wi]
  go_wp2_with fail
  refine (Wait_clock g cB 0 _ (k5.drewN _) cB_ok (by decide)).mono ?_
  rintro e w9 ⟨rfl, q9, rfl⟩
  rw [cB_w]
  go_wp2_with fail
  go_ret
  exact ⟨rfl, below_drewN bb5 _⟩
end Go.Proofs.Ytjkgieenipmcdaa
