/-
  The reference's till.
-/
import Derived.Test.YtgddlamfjjdlfaaCreditC
namespace Go.Proofs.Ytgddlamfjjdlfaa
open Go.RowKit
set_option linter.unusedVariables false
theorem Top_q (n : Int) (w : World) (h0 : 0 ≤ n) : Calls Try.prog 10 #[.int .u64 n] w fun r w' => r = .returned (.int .u64 (topN n)) ∧ ∃ k, w' = w.drewN k :=
  (Top_any n w h0).mono fun r w' h => ⟨h.1, 0, h.2.symm⟩
def RTil (w : World) (g : Nat) (t : TL) : Prop := Blk w g 47 (TLV t)
theorem RTil.c0 {w : World} {g : Nat} {p : TL} (h : RTil w g p) : w.cell? ⟨g, 0, none⟩ = some (.int .u64 p.wi) := Blk.cell h 0
theorem RTil.c1 {w : World} {g : Nat} {p : TL} (h : RTil w g p) : w.cell? ⟨g, 1, none⟩ = some (.int .u64 p.li) := Blk.cell h 1
theorem RTil.c2 {w : World} {g : Nat} {p : TL} (h : RTil w g p) : w.cell? ⟨g, 2, none⟩ = some (.int .u64 p.ca) := Blk.cell h 2
theorem RTil.c3 {w : World} {g : Nat} {p : TL} (h : RTil w g p) : w.cell? ⟨g, 3, none⟩ = some (.int .u64 p.re) := Blk.cell h 3
theorem RTil.lt {w : World} {g : Nat} {p : TL} (h : RTil w g p) : g < w.heap.size := Blk.lt h
theorem RTil.below {w w' : World} {g B : Nat} {p : TL} (h : RTil w g p) (hb : Below B w w') (hg : g < B) : RTil w' g p := Blk.below h hb hg
theorem RTil.drewN {w : World} {g : Nat} {p : TL} (h : RTil w g p) (k : Nat) : RTil (w.drewN k) g p := h
theorem rtil_gb {w w' : World} {g h : Nat} {p : TL} (a : RTil w g p) (b : w.grownBy w' (some h)) (hne : g ≠ h) : RTil w' g p := Blk.grown a b (by simpa using hne)
theorem rCame_nil (n : Int) (w : World) : Calls Try.prog 20 #[.pointer none, .int .u64 n] w fun r w' => r = .returned (.int .i64 6) ∧ w = w' := by
  go_enter Try.func20, Try.ntmps20
  go_wp2_with fail
  go_ret
  exact ⟨rfl, rfl⟩
theorem rCame_any (g : Nat) (p : TL) (n : Int) (w : World) (h : RTil w g p) (h0 : 0 ≤ n) (ok : TlOk p) :
    Calls Try.prog 20 #[.pointer (some ⟨g, 0, none⟩), .int .u64 n] w fun r w' => r = .returned (.int .i64 (tCame p n).2) ∧ RTil w' g (tCame p n).1 ∧ w.grownBy w' (some g) := by
  have c1 := h.c1
  have c2 := h.c2
  have f2 := Blk.frozen h 2
  unfold tCame
  obtain ⟨wi, li, ca, re⟩ := p
  simp only at *
  have H := Lib.hid h
  by_cases hl : li < n
  · rw [if_pos hl]
    clear h
    go_enter Try.func20, Try.ntmps20
    go_wp2_with fail
    go_ret
    exact ⟨rfl, H.out, gb_refl _ _⟩
  · rw [if_neg hl]
    have hd : decide (li < n) = false := by simpa using hl
    by_cases h2 : ca < n
    · rw [show max ca n = n by omega]
      clear h
      go_enter Try.func20, Try.ntmps20
      go_wp2_with fail
      go_ret
      exact ⟨rfl, Blk.set_ H.out 2 _, gb_set (gb_refl _ _) rfl _⟩
    · rw [show max ca n = ca by omega]
      have hd2 : decide (ca < n) = false := by simpa using h2
      clear h
      go_enter Try.func20, Try.ntmps20
      go_wp2_with fail
      go_ret
      exact ⟨rfl, H.out, gb_refl _ _⟩
theorem rTook_nil (n : Int) (w : World) : Calls Try.prog 22 #[.pointer none, .int .u64 n] w fun r w' => r = .returned (.int .i64 6) ∧ ∃ k, w' = w.drewN k := by
  go_enter Try.func22, Try.ntmps22
  go_wp2_with fail
  go_quiet (fail)
  go_wp2_with fail
  go_ret
  exact ⟨rfl, _, rfl⟩
theorem rTook_any (g : Nat) (p : TL) (n : Int) (w : World) (h : RTil w g p) (h0 : 0 ≤ n) (ok : TlOk p) :
    Calls Try.prog 22 #[.pointer (some ⟨g, 0, none⟩), .int .u64 n] w fun r w' => r = .returned (.int .i64 (tTook p n).2) ∧ RTil w' g (tTook p n).1 ∧ w.grownBy w' (some g) := by
  have c2 := h.c2
  have c3 := h.c3
  have f3 := Blk.frozen h 3
  obtain ⟨o0, o1, o2, o3, o4, o5⟩ := ok
  unfold tTook
  obtain ⟨wi, li, ca, re⟩ := p
  simp only at *
  have H := Lib.hid h
  have hw : IntKind.u64.wrap (ca - re) = ca - re := IntWalk.u64_in _ (by omega)
  by_cases hl : ca - re < n
  · rw [if_pos hl]
    clear h
    have hd : decide (ca - re < n) = true := by simpa using hl
    go_enter Try.func22, Try.ntmps22
    go_wp2_with fail
    go_quiet (fail)
    go_wp2_with fail
    go_ret
    exact ⟨rfl, H.out.drewN _, gb_drewN (gb_refl _ _) _⟩
  · rw [if_neg hl]
    have hd : decide (ca - re < n) = false := by simpa using hl
    clear h
    go_enter Try.func22, Try.ntmps22
    go_wp2_with fail
    go_quiet (fail)
    have hw2 : IntKind.u64.wrap (re + n) = re + n := IntWalk.u64_in _ (by omega)
    go_wp2_with fail
    go_ret
    exact ⟨rfl, Blk.set_ (H.out.drewN _) 3 _, gb_set (gb_drewN (gb_refl _ _) _) rfl _⟩
theorem rNews_nil (w : World) : Calls Try.prog 24 #[.pointer none] w fun r w' => r = .returned (.tuple #[.int .u64 0, .bool false]) ∧ w = w' := by
  go_enter Try.func24, Try.ntmps24
  go_wp2_with fail
  exact bodyPost_ret (results_tmp2 rfl _ _ _) rfl ⟨rfl, rfl⟩
theorem rNews_any (g : Nat) (p : TL) (w : World) (h : RTil w g p) (ok : TlOk p) :
    Calls Try.prog 24 #[.pointer (some ⟨g, 0, none⟩)] w fun r w' => r = .returned (.tuple #[.int .u64 (tNews p).2.1, .bool (tNews p).2.2]) ∧ RTil w' g (tNews p).1 ∧ w.grownBy w' (some g) := by
  have c1 := h.c1
  have c3 := h.c3
  obtain ⟨o0, o1, o2, o3, o4, o5⟩ := ok
  have HB := fun W => Top_q (p.re + p.wi) W (by omega)
  have hT := topN_ok (show 0 ≤ p.re + p.wi by omega)
  unfold tNews
  obtain ⟨wi, li, ca, re⟩ := p
  simp only at *
  have H := Lib.hid h
  clear h
  generalize topN (re + wi) = L at *
  have hw : IntKind.u64.wrap (li - re) = li - re := IntWalk.u64_in _ (by omega)
  have hw2 : IntKind.u64.wrap (re + wi) = re + wi := IntWalk.u64_in _ (by omega)
  rcases (show (0 < li - re ∧ wi / 2 ≤ li - re) ∨ (¬ (0 < li - re) ∧ L ≤ li) ∨ (0 < li - re ∧ ¬ (wi / 2 ≤ li - re) ∧ L ≤ li) ∨ (¬ (0 < li - re) ∧ ¬ L ≤ li) ∨ (0 < li - re ∧ ¬ (wi / 2 ≤ li - re) ∧ ¬ L ≤ li) by omega) with ⟨h1, h2⟩ | ⟨h1, h3⟩ | ⟨h1, h2, h3⟩ | ⟨h1, h3⟩ | ⟨h1, h2, h3⟩
  · rw [if_pos (show max (wi / 2) 1 ≤ li - re by omega)]
    have hd1 : decide (0 < li - re) = true := by simpa using h1
    have hd2 : decide (wi / 2 ≤ li - re) = true := by simpa using h2
    go_enter Try.func24, Try.ntmps24
    go_wp2_with fail
    go_quiet (fail)
    go_wp2_with fail
    obtain ⟨w1, hw1⟩ : ∃ w1, w1 = w.drewN nq := ⟨_, rfl⟩
    have J : RTil w1 g ⟨wi, li, ca, re⟩ := by rw [hw1]; exact H.out.drewN _
    have B1 : w.grownBy w1 (some g) := by rw [hw1]; exact gb_drewN (gb_refl _ _) _
    clear c1 c3
    have c0 := J.c0
    have c1 := J.c1
    have c3 := J.c3
    have f1 := Blk.frozen J 1
    simp only at c0 c1 c3
    have HJ := Lib.hid J
    have HB1 := Lib.hid B1
    rw [← hw1]
    clear J B1 hw1
    go_quiet ((go_at_call 10; exact Calls.quiet_of (HB _)))
    go_wp2_with fail
    exact bodyPost_ret (results_tmp2 rfl _ _ _) rfl ⟨rfl, HJ.out.drewN _, gb_drewN HB1.out _⟩
  · rw [if_neg (show ¬ max (wi / 2) 1 ≤ li - re by omega), if_pos h3]
    have hd1 : decide (0 < li - re) = false := by simpa using h1
    have hd3 : decide (L ≤ li) = true := by simpa using h3
    go_enter Try.func24, Try.ntmps24
    go_wp2_with fail
    go_quiet (fail)
    go_wp2_with fail
    obtain ⟨w1, hw1⟩ : ∃ w1, w1 = w.drewN nq := ⟨_, rfl⟩
    have J : RTil w1 g ⟨wi, li, ca, re⟩ := by rw [hw1]; exact H.out.drewN _
    have B1 : w.grownBy w1 (some g) := by rw [hw1]; exact gb_drewN (gb_refl _ _) _
    clear c1 c3
    have c0 := J.c0
    have c1 := J.c1
    have c3 := J.c3
    have f1 := Blk.frozen J 1
    simp only at c0 c1 c3
    have HJ := Lib.hid J
    have HB1 := Lib.hid B1
    rw [← hw1]
    clear J B1 hw1
    go_quiet ((go_at_call 10; exact Calls.quiet_of (HB _)))
    go_wp2_with fail
    exact bodyPost_ret (results_tmp2 rfl _ _ _) rfl ⟨rfl, HJ.out.drewN _, gb_drewN HB1.out _⟩
  · rw [if_neg (show ¬ max (wi / 2) 1 ≤ li - re by omega), if_pos h3]
    have hd1 : decide (0 < li - re) = true := by simpa using h1
    have hd2 : decide (wi / 2 ≤ li - re) = false := by simpa using h2
    have hd3 : decide (L ≤ li) = true := by simpa using h3
    go_enter Try.func24, Try.ntmps24
    go_wp2_with fail
    go_quiet (fail)
    go_wp2_with fail
    obtain ⟨w1, hw1⟩ : ∃ w1, w1 = w.drewN nq := ⟨_, rfl⟩
    have J : RTil w1 g ⟨wi, li, ca, re⟩ := by rw [hw1]; exact H.out.drewN _
    have B1 : w.grownBy w1 (some g) := by rw [hw1]; exact gb_drewN (gb_refl _ _) _
    clear c1 c3
    have c0 := J.c0
    have c1 := J.c1
    have c3 := J.c3
    have f1 := Blk.frozen J 1
    simp only at c0 c1 c3
    have HJ := Lib.hid J
    have HB1 := Lib.hid B1
    rw [← hw1]
    clear J B1 hw1
    go_quiet ((go_at_call 10; exact Calls.quiet_of (HB _)))
    go_wp2_with fail
    exact bodyPost_ret (results_tmp2 rfl _ _ _) rfl ⟨rfl, HJ.out.drewN _, gb_drewN HB1.out _⟩
  · rw [if_neg (show ¬ max (wi / 2) 1 ≤ li - re by omega), if_neg h3]
    have hd1 : decide (0 < li - re) = false := by simpa using h1
    have hd3 : decide (L ≤ li) = false := by simpa using h3
    go_enter Try.func24, Try.ntmps24
    go_wp2_with fail
    go_quiet (fail)
    go_wp2_with fail
    obtain ⟨w1, hw1⟩ : ∃ w1, w1 = w.drewN nq := ⟨_, rfl⟩
    have J : RTil w1 g ⟨wi, li, ca, re⟩ := by rw [hw1]; exact H.out.drewN _
    have B1 : w.grownBy w1 (some g) := by rw [hw1]; exact gb_drewN (gb_refl _ _) _
    clear c1 c3
    have c0 := J.c0
    have c1 := J.c1
    have c3 := J.c3
    have f1 := Blk.frozen J 1
    simp only at c0 c1 c3
    have HJ := Lib.hid J
    have HB1 := Lib.hid B1
    rw [← hw1]
    clear J B1 hw1
    go_quiet ((go_at_call 10; exact Calls.quiet_of (HB _)))
    go_wp2_with fail
    exact bodyPost_ret (results_tmp2 rfl _ _ _) rfl ⟨rfl, Blk.set_ (HJ.out.drewN _) 1 _, gb_set (gb_drewN HB1.out _) rfl _⟩
  · rw [if_neg (show ¬ max (wi / 2) 1 ≤ li - re by omega), if_neg h3]
    have hd1 : decide (0 < li - re) = true := by simpa using h1
    have hd2 : decide (wi / 2 ≤ li - re) = false := by simpa using h2
    have hd3 : decide (L ≤ li) = false := by simpa using h3
    go_enter Try.func24, Try.ntmps24
    go_wp2_with fail
    go_quiet (fail)
    go_wp2_with fail
    obtain ⟨w1, hw1⟩ : ∃ w1, w1 = w.drewN nq := ⟨_, rfl⟩
    have J : RTil w1 g ⟨wi, li, ca, re⟩ := by rw [hw1]; exact H.out.drewN _
    have B1 : w.grownBy w1 (some g) := by rw [hw1]; exact gb_drewN (gb_refl _ _) _
    clear c1 c3
    have c0 := J.c0
    have c1 := J.c1
    have c3 := J.c3
    have f1 := Blk.frozen J 1
    simp only at c0 c1 c3
    have HJ := Lib.hid J
    have HB1 := Lib.hid B1
    rw [← hw1]
    clear J B1 hw1
    go_quiet ((go_at_call 10; exact Calls.quiet_of (HB _)))
    go_wp2_with fail
    exact bodyPost_ret (results_tmp2 rfl _ _ _) rfl ⟨rfl, Blk.set_ (HJ.out.drewN _) 1 _, gb_set (gb_drewN HB1.out _) rfl _⟩
end Go.Proofs.Ytgddlamfjjdlfaa
