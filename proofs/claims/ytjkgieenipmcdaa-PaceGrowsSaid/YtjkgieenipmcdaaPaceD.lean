/-
  The meter: grow, shrink, Acked, Lost, Told, Room; and what a nil clock and a nil meter answer.
-/
import Derived.Test.YtjkgieenipmcdaaPaceC
import Derived.Test.YtjkgieenipmcdaaPaceB
import Derived.BigQuiet
namespace Go.Proofs.Ytjkgieenipmcdaa
open Go.RowKit
set_option linter.unusedVariables false

theorem mtr_wi {w : World} {g : Nat} {wi th fl st wi' V : Int} {rc : Bool} (h : Mtr w g ⟨wi, th, fl, rc, st⟩) (hV : V = wi') :
    Mtr ((w.setCell ⟨g, 0, none⟩ (.int .i64 V)).drew) g ⟨wi', th, fl, rc, st⟩ ∧ w.grownBy ((w.setCell ⟨g, 0, none⟩ (.int .i64 V)).drew) (some g) := by
  subst hV
  exact ⟨Blk.set_ h 0 _, gb_drewN (gb_set (gb_refl _ _) rfl _) 1⟩
theorem mtr_wi0 {w : World} {g : Nat} {wi th fl st wi' V : Int} {rc : Bool} (h : Mtr w g ⟨wi, th, fl, rc, st⟩) (hV : V = wi') :
    Mtr (w.setCell ⟨g, 0, none⟩ (.int .i64 V)) g ⟨wi', th, fl, rc, st⟩ ∧ w.grownBy (w.setCell ⟨g, 0, none⟩ (.int .i64 V)) (some g) := by
  subst hV
  exact ⟨Blk.set_ h 0 _, gb_set (gb_refl _ _) rfl _⟩

theorem grow_any (g : Nat) (m : MT) (n : Int) (w : World) (h : Mtr w g m) (ok : MtOk m) (h0 : 0 ≤ n) (h1 : n ≤ 1200) :
    Calls Try.prog 29 #[.pointer (some ⟨g, 0, none⟩), .int .i64 n] w fun r w' => r = .returned (.tuple #[]) ∧ Mtr w' g (mGrow m n) ∧ w.grownBy w' (some g) := by
  have c0 := h.c0
  have c1 := h.c1
  have f0 := Blk.frozen h 0
  have hlt := h.lt
  obtain ⟨⟨p0, p1⟩, ⟨q0, q1⟩, _, _⟩ := ok
  obtain ⟨wi, th, fl, rc, st⟩ := m
  simp only at *
  by_cases ht : th ≤ wi
  · obtain ⟨D, hD⟩ : ∃ D, D = 1200 * n / wi := ⟨_, rfl⟩
    obtain ⟨d0, d1⟩ := @div_le_n (1200 * n) wi (by omega) (by omega)
    rw [← hD] at d0 d1
    have e : mGrow ⟨wi, th, fl, rc, st⟩ n = ⟨min (wi + D) 1073741824, th, fl, rc, st⟩ := by simp [mGrow, ht, hD]
    rw [e]
    have H := Lib.hid h
    clear h e
    have hD' := hD.symm
    clear hD
    have hn0 : 0 ≤ 1200 * n := by omega
    go_enter Try.func29, Try.ntmps29
    go_wp2
    go_region
    all_goals go_wp2
    all_goals (
      exact bodyPost_end (v := .tuple #[]) (results_none (by rfl) _ _ _) (by rfl) ⟨rfl, mtr_wi H.out (by omega)⟩)
  · have e : mGrow ⟨wi, th, fl, rc, st⟩ n = ⟨min (wi + n) 1073741824, th, fl, rc, st⟩ := by simp [mGrow, ht]
    rw [e]
    have H := Lib.hid h
    clear h e
    go_enter Try.func29, Try.ntmps29
    go_wp2
    go_region
    all_goals go_wp2
    all_goals (
      exact bodyPost_end (v := .tuple #[]) (results_none (by rfl) _ _ _) (by rfl) ⟨rfl, mtr_wi H.out (by omega)⟩)

theorem mtr_shr {w : World} {g : Nat} {wi th fl st W now : Int} {rc : Bool} (h : Mtr w g ⟨wi, th, fl, rc, st⟩) :
    Mtr ((((w.setCell ⟨g, 3, none⟩ (.bool true)).setCell ⟨g, 4, none⟩ (.int .u64 now)).setCell ⟨g, 0, none⟩ (.int .i64 W)).setCell ⟨g, 1, none⟩ (.int .u64 W)) g ⟨W, W, fl, true, now⟩ ∧ w.grownBy ((((w.setCell ⟨g, 3, none⟩ (.bool true)).setCell ⟨g, 4, none⟩ (.int .u64 now)).setCell ⟨g, 0, none⟩ (.int .i64 W)).setCell ⟨g, 1, none⟩ (.int .u64 W)) (some g) := by
  have a1 : Blk _ g _ #[.int .i64 wi, .int .u64 th, .int .i64 fl, .bool true, .int .u64 st] := Blk.set_ h 3 (.bool true)
  have a2 : Blk _ g _ #[.int .i64 wi, .int .u64 th, .int .i64 fl, .bool true, .int .u64 now] := Blk.set_ a1 4 (.int .u64 now)
  have a3 : Blk _ g _ #[.int .i64 W, .int .u64 th, .int .i64 fl, .bool true, .int .u64 now] := Blk.set_ a2 0 (.int .i64 W)
  have a4 : Blk _ g _ #[.int .i64 W, .int .u64 W, .int .i64 fl, .bool true, .int .u64 now] := Blk.set_ a3 1 (.int .u64 W)
  refine ⟨a4, ?_⟩
  refine gb_set ?_ rfl _
  refine gb_set ?_ rfl _
  refine gb_set ?_ rfl _
  exact gb_set (gb_refl _ _) rfl _
theorem shrink_any (g : Nat) (m : MT) (now : Int) (w : World) (h : Mtr w g m) (ok : MtOk m) (h0 : 0 ≤ now) (h1 : now < 18446744073709551616) :
    Calls Try.prog 30 #[.pointer (some ⟨g, 0, none⟩), .int .u64 now] w fun r w' => r = .returned (.tuple #[]) ∧ Mtr w' g (mShrink m now) ∧ w.grownBy w' (some g) := by
  have c0 := h.c0
  have c1 := h.c1
  have c3 := h.c3
  have c4 := h.c4
  have f0 := Blk.frozen h 0
  have f1 := Blk.frozen h 1
  have f3 := Blk.frozen h 3
  have f4 := Blk.frozen h 4
  have hlt := h.lt
  obtain ⟨⟨p0, p1⟩, ⟨q0, q1⟩, _, _⟩ := ok
  obtain ⟨wi, th, fl, rc, st⟩ := m
  simp only at *
  obtain ⟨W, hW⟩ : ∃ W, W = max (wi / 2) 2400 := ⟨_, rfl⟩
  have e : mShrink ⟨wi, th, fl, rc, st⟩ now = ⟨W, W, fl, true, now⟩ := by simp [mShrink, hW]
  rw [e]
  have hW0 : 0 ≤ W ∧ W ≤ 1073741824 := by omega
  have W1 : (if wi / 2 < 2400 then 2400 else wi / 2) = W := by rw [hW]; split <;> omega
  have W2 : (if 2400 < wi / 2 then wi / 2 else 2400) = W := by rw [hW]; split <;> omega
  have H := Lib.hid h
  clear h e hW
  go_enter Try.func30, Try.ntmps30
  go_wp2
  exact bodyPost_end (v := .tuple #[]) (results_none (by rfl) _ _ _) (by rfl) ⟨rfl, mtr_shr H.out⟩

theorem mGone_err {m : MT} {n : Int} (h : (mGone m n).2 ≠ 0) : (mGone m n).2 = 6 ∨ (mGone m n).2 = 1 := by
  unfold mGone at *
  split
  · split
    · exact .inl rfl
    · rename_i a b
      rw [if_pos a, if_neg b] at h
      exact absurd rfl h
  · exact .inr rfl
theorem Acked_any (g : Nat) (m : MT) (n sent : Int) (w : World) (h : Mtr w g m) (ok : MtOk m) (hn : (Lit.int .i64 n).wf = true) (h0 : 0 ≤ sent) (h1 : sent < 18446744073709551616) :
    Calls Try.prog 20 #[.pointer (some ⟨g, 0, none⟩), .int .i64 n, .int .u64 sent] w fun r w' => r = .returned (.int .i64 (mAcked m n sent).2) ∧ Mtr w' g (mAcked m n sent).1 ∧ w.grownBy w' (some g) := by
  have hG := Gone_any g m n w h ok hn
  have ok1 := @mGone_ok m n ok
  clear h
  by_cases he : (mGone m n).2 = 0
  · obtain ⟨z0, z1⟩ := mGone_sz he
    rw [he] at hG
    by_cases ha : mAf (mGone m n).1 sent = true
    · have e : mAcked m n sent = (mGrow (mGone m n).1 n, 0) := by simp [mAcked, he, ha]
      rw [e]
      clear e he ok
      generalize (mGone m n).1 = m1 at *
      have hA := Lib.hid ha
      clear ha
      go_enter Try.func20, Try.ntmps20
      go_wp2_with (first | (go_at_call 22; refine hG.mono ?_; rintro e w1 ⟨rfl, b1, g1⟩) | (go_at_call 28; refine (after_yes g m1 sent _ (by assumption) ok1 h0 h1 hA.out).mono ?_; rintro e w' ⟨rfl, rfl⟩) | (go_at_call 29; refine (grow_any g m1 n _ (by assumption) ok1 z0 z1).mono ?_; rintro e w2 ⟨rfl, b2, g2⟩))
      go_ret
      exact ⟨rfl, b2, gb_then g1 g2⟩
    · have e : mAcked m n sent = mGone m n := by simp [mAcked, ha]
      rw [e, he]
      clear e he ok
      generalize (mGone m n).1 = m1 at *
      have hA := Lib.hid ha
      clear ha
      go_enter Try.func20, Try.ntmps20
      go_wp2_with (first | (go_at_call 22; refine hG.mono ?_; rintro e w1 ⟨rfl, b1, g1⟩) | (go_at_call 28; refine (after_no g m1 sent _ (by assumption) ok1 h0 h1 hA.out).mono ?_; rintro e w' ⟨rfl, rfl⟩))
      go_ret
      exact ⟨rfl, b1, g1⟩
  · have e : mAcked m n sent = mGone m n := by simp [mAcked, he]
    rw [e]
    rcases mGone_err he with hE | hE
    all_goals
      rw [hE] at hG ⊢
      clear e he ok hE
      generalize (mGone m n).1 = m1 at *
      go_enter Try.func20, Try.ntmps20
      go_wp2_with (go_at_call 22; refine hG.mono ?_; rintro e w1 ⟨rfl, b1, g1⟩)
      go_ret
      exact ⟨rfl, b1, g1⟩
theorem MLost_any (g : Nat) (m : MT) (n sent now : Int) (w : World) (h : Mtr w g m) (ok : MtOk m) (hn : (Lit.int .i64 n).wf = true) (h0 : 0 ≤ sent) (h1 : sent < 18446744073709551616) (k0 : 0 ≤ now) (k1 : now < 18446744073709551616) :
    Calls Try.prog 21 #[.pointer (some ⟨g, 0, none⟩), .int .i64 n, .int .u64 sent, .int .u64 now] w fun r w' => r = .returned (.int .i64 (mLost m n sent now).2) ∧ Mtr w' g (mLost m n sent now).1 ∧ w.grownBy w' (some g) := by
  have hG := Gone_any g m n w h ok hn
  have ok1 := @mGone_ok m n ok
  clear h
  by_cases he : (mGone m n).2 = 0
  · rw [he] at hG
    by_cases ha : mAf (mGone m n).1 sent = true
    · have e : mLost m n sent now = (mShrink (mGone m n).1 now, 0) := by simp [mLost, he, ha]
      rw [e]
      clear e he ok
      generalize (mGone m n).1 = m1 at *
      have hA := Lib.hid ha
      clear ha
      go_enter Try.func21, Try.ntmps21
      go_wp2_with (first | (go_at_call 22; refine hG.mono ?_; rintro e w1 ⟨rfl, b1, g1⟩) | (go_at_call 28; refine (after_yes g m1 sent _ (by assumption) ok1 h0 h1 hA.out).mono ?_; rintro e w' ⟨rfl, rfl⟩) | (go_at_call 30; refine (shrink_any g m1 now _ (by assumption) ok1 k0 k1).mono ?_; rintro e w2 ⟨rfl, b2, g2⟩))
      go_ret
      exact ⟨rfl, b2, gb_then g1 g2⟩
    · have e : mLost m n sent now = mGone m n := by simp [mLost, ha]
      rw [e, he]
      clear e he ok
      generalize (mGone m n).1 = m1 at *
      have hA := Lib.hid ha
      clear ha
      go_enter Try.func21, Try.ntmps21
      go_wp2_with (first | (go_at_call 22; refine hG.mono ?_; rintro e w1 ⟨rfl, b1, g1⟩) | (go_at_call 28; refine (after_no g m1 sent _ (by assumption) ok1 h0 h1 hA.out).mono ?_; rintro e w' ⟨rfl, rfl⟩))
      go_ret
      exact ⟨rfl, b1, g1⟩
  · have e : mLost m n sent now = mGone m n := by simp [mLost, he]
    rw [e]
    rcases mGone_err he with hE | hE
    all_goals
      rw [hE] at hG ⊢
      clear e he ok hE
      generalize (mGone m n).1 = m1 at *
      go_enter Try.func21, Try.ntmps21
      go_wp2_with (go_at_call 22; refine hG.mono ?_; rintro e w1 ⟨rfl, b1, g1⟩)
      go_ret
      exact ⟨rfl, b1, g1⟩

theorem results_tmp3 {fn : Func} {t u v : Tmp} (h : fn.results = #[.tmp t, .tmp u, .tmp v]) (tmps : Array Value) (P : Program) (w : World) :
    (results fn tmps).run P w = .ok (.tuple #[tmps.getD t undef, tmps.getD u undef, tmps.getD v undef]) w := by
  simp [results, h]
theorem Told_meter (g : Nat) (m : MT) (w : World) (h : Mtr w g m) :
    Calls Try.prog 24 #[.pointer (some ⟨g, 0, none⟩)] w fun r w' => r = .returned (.tuple #[.int .i64 m.wi, .int .u64 m.th, .int .i64 m.fl]) ∧ ∃ k, w' = w.drewN k := by
  have c0 := h.c0
  have c1 := h.c1
  have c2 := h.c2
  clear h
  go_enter Try.func24, Try.ntmps24
  go_wp2
  go_region
  go_wp2
  exact bodyPost_ret (results_tmp3 rfl _ _ _) rfl ⟨rfl, _, rfl⟩
theorem Room_meter (g : Nat) (m : MT) (w : World) (h : Mtr w g m) (ok : MtOk m) :
    Calls Try.prog 25 #[.pointer (some ⟨g, 0, none⟩)] w fun r w' => r = .returned (.int .i64 (max (m.wi - m.fl) 0)) ∧ ∃ k, w' = w.drewN k := by
  have c0 := h.c0
  have c2 := h.c2
  clear h
  obtain ⟨⟨p0, p1⟩, _, ⟨q0, q1⟩, _⟩ := ok
  generalize m.wi = A at *
  generalize m.fl = B at *
  go_enter Try.func25, Try.ntmps25
  go_wp2
  go_region
  all_goals go_wp2
  all_goals (
    go_ret
    exact ⟨congrArg (fun x => Ending.returned (Value.int .i64 x)) (show _ = _ by omega), _, rfl⟩)

theorem Send_nil (n : Int) (w : World) : Calls Try.prog 19 #[.pointer none, .int .i64 n] w fun r w' => r = .returned (.int .i64 6) ∧ w = w' := by
  go_enter Try.func19, Try.ntmps19
  go_wp2
  go_ret
  exact ⟨rfl, rfl⟩
theorem Gone_nil (n : Int) (w : World) : Calls Try.prog 22 #[.pointer none, .int .i64 n] w fun r w' => r = .returned (.int .i64 6) ∧ w = w' := by
  go_enter Try.func22, Try.ntmps22
  go_wp2
  go_ret
  exact ⟨rfl, rfl⟩
theorem Acked_nil (n s : Int) (w : World) : Calls Try.prog 20 #[.pointer none, .int .i64 n, .int .u64 s] w fun r w' => r = .returned (.int .i64 6) ∧ w = w' := by
  go_enter Try.func20, Try.ntmps20
  go_wp2_with (go_at_call 22; refine (Gone_nil _ _).mono ?_; rintro e w' ⟨rfl, rfl⟩)
  go_ret
  exact ⟨rfl, rfl⟩
theorem MLost_nil (n s t : Int) (w : World) : Calls Try.prog 21 #[.pointer none, .int .i64 n, .int .u64 s, .int .u64 t] w fun r w' => r = .returned (.int .i64 6) ∧ w = w' := by
  go_enter Try.func21, Try.ntmps21
  go_wp2_with (go_at_call 22; refine (Gone_nil _ _).mono ?_; rintro e w' ⟨rfl, rfl⟩)
  go_ret
  exact ⟨rfl, rfl⟩
theorem MTold_nil (w : World) : Calls Try.prog 24 #[.pointer none] w fun r w' => r = .returned (.tuple #[.int .i64 0, .int .u64 0, .int .i64 0]) ∧ w = w' := by
  go_enter Try.func24, Try.ntmps24
  go_wp2
  exact bodyPost_ret (results_tmp3 rfl _ _ _) rfl ⟨rfl, rfl⟩
theorem Room_nil (w : World) : Calls Try.prog 25 #[.pointer none] w fun r w' => r = .returned (.int .i64 0) ∧ w = w' := by
  go_enter Try.func25, Try.ntmps25
  go_wp2
  go_ret
  exact ⟨rfl, rfl⟩

theorem Sample_nil (a b : Int) (w : World) : Calls Try.prog 10 #[.pointer none, .int .u64 a, .int .u64 b] w fun r w' => r = .returned (.tuple #[]) ∧ w = w' := by
  go_enter Try.func10, Try.ntmps10
  go_wp2
  exact bodyPost_ret (v := .tuple #[]) (results_none (by rfl) _ _ _) (by rfl) ⟨rfl, rfl⟩
theorem CTold_nil (w : World) : Calls Try.prog 12 #[.pointer none] w fun r w' => r = .returned (.tuple #[.int .u64 0, .int .u64 0, .int .u64 0, .int .u64 0]) ∧ w = w' := by
  go_enter Try.func12, Try.ntmps12
  go_wp2
  exact bodyPost_ret (results_tmp4 rfl _ _ _) rfl ⟨rfl, rfl⟩
theorem CWait_nil (t : Int) (w : World) : Calls Try.prog 13 #[.pointer none, .int .i64 t] w fun r w' => r = .returned (.int .u64 0) ∧ w = w' := by
  go_enter Try.func13, Try.ntmps13
  go_wp2
  go_ret
  exact ⟨rfl, rfl⟩
theorem CLost_nil (w : World) : Calls Try.prog 15 #[.pointer none] w fun r w' => r = .returned (.int .u64 0) ∧ w = w' := by
  go_enter Try.func15, Try.ntmps15
  go_wp2
  go_ret
  exact ⟨rfl, rfl⟩
end Go.Proofs.Ytjkgieenipmcdaa
