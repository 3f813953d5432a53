/-
  The meter: its size check, Gone, Send, and what stands behind the start of a recovery.
-/
import Derived.Test.YtjkgieenipmcdaaPaceA
namespace Go.Proofs.Ytjkgieenipmcdaa
open Go.RowKit
set_option linter.unusedVariables false

def MV (m : MT) : Array Value := #[.int .i64 m.wi, .int .u64 m.th, .int .i64 m.fl, .bool m.rc, .int .u64 m.st]
def Mtr (w : World) (g : Nat) (m : MT) : Prop := Blk w g 65 (MV m)
theorem Mtr.c0 {w : World} {g : Nat} {m : MT} (h : Mtr w g m) : w.cell? ⟨g, 0, none⟩ = some (.int .i64 m.wi) := Blk.cell h 0
theorem Mtr.c1 {w : World} {g : Nat} {m : MT} (h : Mtr w g m) : w.cell? ⟨g, 1, none⟩ = some (.int .u64 m.th) := Blk.cell h 1
theorem Mtr.c2 {w : World} {g : Nat} {m : MT} (h : Mtr w g m) : w.cell? ⟨g, 2, none⟩ = some (.int .i64 m.fl) := Blk.cell h 2
theorem Mtr.c3 {w : World} {g : Nat} {m : MT} (h : Mtr w g m) : w.cell? ⟨g, 3, none⟩ = some (.bool m.rc) := Blk.cell h 3
theorem Mtr.c4 {w : World} {g : Nat} {m : MT} (h : Mtr w g m) : w.cell? ⟨g, 4, none⟩ = some (.int .u64 m.st) := Blk.cell h 4
theorem Mtr.below {w w' : World} {g B : Nat} {m : MT} (h : Mtr w g m) (hb : Below B w w') (hg : g < B) : Mtr w' g m := Blk.below h hb hg
theorem Mtr.lt {w : World} {g : Nat} {m : MT} (h : Mtr w g m) : g < w.heap.size := Blk.lt h
theorem Mtr.drewN {w : World} {g : Nat} {m : MT} (h : Mtr w g m) (k : Nat) : Mtr (w.drewN k) g m := h

theorem NewMeter_any (w : World) : Calls Try.prog 17 #[] w fun r w' => ∃ g, r = .returned (.pointer (some ⟨g, 0, none⟩)) ∧ Mtr w' g mt0 ∧ w.heap.size ≤ g ∧ Below w.heap.size w w' := by
  go_enter Try.func17, Try.ntmps17
  go_wp2
  go_ret
  exact ⟨_, rfl, Blk.new w _ _, Nat.le_refl _, (Below.refl _ _).alloc (Nat.le_refl _) _⟩

theorem isSize_yes (n : Int) (w : World) (h0 : 0 ≤ n) (h1 : n ≤ 1200) : Calls Try.prog 27 #[.int .i64 n] w fun r w' => r = .returned (.bool true) ∧ w = w' := by
  go_enter Try.func27, Try.ntmps27
  go_wp2
  go_ret
  exact ⟨rfl, rfl⟩
theorem isSize_no (n : Int) (w : World) (h : n < 0 ∨ 1200 < n) : Calls Try.prog 27 #[.int .i64 n] w fun r w' => r = .returned (.bool false) ∧ w = w' := by
  rcases h with h | h
  · go_enter Try.func27, Try.ntmps27
    go_wp2
    go_ret
    exact ⟨rfl, rfl⟩
  · have hd : decide (n ≤ 1200) = false := by simp; omega
    go_enter Try.func27, Try.ntmps27
    go_wp2
    go_ret
    exact ⟨rfl, rfl⟩
theorem mSz_false {n : Int} (h : ¬ mSz n = true) : n < 0 ∨ 1200 < n := by
  unfold mSz at h
  simp at h
  omega

theorem Gone_any (g : Nat) (m : MT) (n : Int) (w : World) (h : Mtr w g m) (ok : MtOk m) (hn : (Lit.int .i64 n).wf = true) :
    Calls Try.prog 22 #[.pointer (some ⟨g, 0, none⟩), .int .i64 n] w fun r w' => r = .returned (.int .i64 (mGone m n).2) ∧ Mtr w' g (mGone m n).1 ∧ w.grownBy w' (some g) := by
  have c2 := h.c2
  have f2 := Blk.frozen h 2
  obtain ⟨_, _, ⟨p0, p1⟩, _⟩ := ok
  obtain ⟨wi, th, fl, rc, st⟩ := m
  simp only at *
  by_cases hs : mSz n = true
  · obtain ⟨h0, h1⟩ := mSz_true hs
    by_cases hf : fl < n
    · have e : mGone ⟨wi, th, fl, rc, st⟩ n = (⟨wi, th, fl, rc, st⟩, 6) := by simp [mGone, hs, hf]
      rw [e]
      have H := Lib.hid h
      clear h e hs
      go_enter Try.func22, Try.ntmps22
      go_wp2_with (go_at_call 27; refine (isSize_yes _ _ (by omega) (by omega)).mono ?_; rintro e w' ⟨rfl, rfl⟩)
      go_ret
      exact ⟨rfl, H.out, gb_refl _ _⟩
    · have e : mGone ⟨wi, th, fl, rc, st⟩ n = (⟨wi, th, fl - n, rc, st⟩, 0) := by simp [mGone, hs, hf]
      rw [e]
      have H := Lib.hid h
      clear h e hs
      go_enter Try.func22, Try.ntmps22
      go_wp2_with (go_at_call 27; refine (isSize_yes _ _ (by omega) (by omega)).mono ?_; rintro e w' ⟨rfl, rfl⟩)
      go_ret
      exact ⟨rfl, Blk.set_ H.out 2 _, gb_set (gb_refl _ _) rfl _⟩
  · have e : mGone ⟨wi, th, fl, rc, st⟩ n = (⟨wi, th, fl, rc, st⟩, 1) := by simp [mGone, hs]
    have hs' := mSz_false hs
    rw [e]
    have H := Lib.hid h
    clear h e hs
    go_enter Try.func22, Try.ntmps22
    go_wp2_with (go_at_call 27; refine (isSize_no _ _ hs').mono ?_; rintro e w' ⟨rfl, rfl⟩)
    go_ret
    exact ⟨rfl, H.out, gb_refl _ _⟩

theorem Send_any (g : Nat) (m : MT) (n : Int) (w : World) (h : Mtr w g m) (ok : MtOk m) (hn : (Lit.int .i64 n).wf = true) :
    Calls Try.prog 19 #[.pointer (some ⟨g, 0, none⟩), .int .i64 n] w fun r w' => r = .returned (.int .i64 (mSend m n).2) ∧ Mtr w' g (mSend m n).1 ∧ w.grownBy w' (some g) := by
  have c2 := h.c2
  have f2 := Blk.frozen h 2
  obtain ⟨_, _, ⟨p0, p1⟩, _⟩ := ok
  obtain ⟨wi, th, fl, rc, st⟩ := m
  simp only at *
  by_cases hs : mSz n = true
  · obtain ⟨h0, h1⟩ := mSz_true hs
    by_cases hf : 1073741824 - fl < n
    · have e : mSend ⟨wi, th, fl, rc, st⟩ n = (⟨wi, th, fl, rc, st⟩, 8) := by simp [mSend, hs, hf]
      rw [e]
      have H := Lib.hid h
      clear h e hs
      go_enter Try.func19, Try.ntmps19
      go_wp2_with (go_at_call 27; refine (isSize_yes _ _ (by omega) (by omega)).mono ?_; rintro e w' ⟨rfl, rfl⟩)
      go_ret
      exact ⟨rfl, H.out, gb_refl _ _⟩
    · have e : mSend ⟨wi, th, fl, rc, st⟩ n = (⟨wi, th, fl + n, rc, st⟩, 0) := by simp [mSend, hs, hf]
      rw [e]
      have H := Lib.hid h
      clear h e hs
      go_enter Try.func19, Try.ntmps19
      go_wp2_with (go_at_call 27; refine (isSize_yes _ _ (by omega) (by omega)).mono ?_; rintro e w' ⟨rfl, rfl⟩)
      go_ret
      exact ⟨rfl, Blk.set_ H.out 2 _, gb_set (gb_refl _ _) rfl _⟩
  · have e : mSend ⟨wi, th, fl, rc, st⟩ n = (⟨wi, th, fl, rc, st⟩, 1) := by simp [mSend, hs]
    have hs' := mSz_false hs
    rw [e]
    have H := Lib.hid h
    clear h e hs
    go_enter Try.func19, Try.ntmps19
    go_wp2_with (go_at_call 27; refine (isSize_no _ _ hs').mono ?_; rintro e w' ⟨rfl, rfl⟩)
    go_ret
    exact ⟨rfl, H.out, gb_refl _ _⟩

/-- Sent behind the start of the last recovery; or there was none. -/
theorem after_yes (g : Nat) (m : MT) (s : Int) (w : World) (h : Mtr w g m) (ok : MtOk m) (h0 : 0 ≤ s) (h1 : s < 18446744073709551616) (ha : mAf m s = true) :
    Calls Try.prog 28 #[.pointer (some ⟨g, 0, none⟩), .int .u64 s] w fun r w' => r = .returned (.bool true) ∧ w = w' := by
  have c3 := h.c3
  have c4 := h.c4
  obtain ⟨_, _, _, ⟨p0, p1⟩⟩ := ok
  obtain ⟨wi, th, fl, rc, st⟩ := m
  simp only at *
  clear h
  unfold mAf at ha
  rcases rc with _ | _
  · clear ha
    go_enter Try.func28, Try.ntmps28
    go_wp2
    go_ret
    exact ⟨rfl, rfl⟩
  · simp at ha
    go_enter Try.func28, Try.ntmps28
    go_wp2
    go_ret
    exact ⟨rfl, rfl⟩
theorem after_no (g : Nat) (m : MT) (s : Int) (w : World) (h : Mtr w g m) (ok : MtOk m) (h0 : 0 ≤ s) (h1 : s < 18446744073709551616) (ha : ¬ mAf m s = true) :
    Calls Try.prog 28 #[.pointer (some ⟨g, 0, none⟩), .int .u64 s] w fun r w' => r = .returned (.bool false) ∧ w = w' := by
  have c3 := h.c3
  have c4 := h.c4
  obtain ⟨_, _, _, ⟨p0, p1⟩⟩ := ok
  obtain ⟨wi, th, fl, rc, st⟩ := m
  simp only at *
  clear h
  unfold mAf at ha
  rcases rc with _ | _
  · simp at ha
  · simp at ha
    have hd : decide (st < s) = false := by simp; omega
    go_enter Try.func28, Try.ntmps28
    go_wp2
    go_ret
    exact ⟨rfl, rfl⟩
end Go.Proofs.Ytjkgieenipmcdaa
