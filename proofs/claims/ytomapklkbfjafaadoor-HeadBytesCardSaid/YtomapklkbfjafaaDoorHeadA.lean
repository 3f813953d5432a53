/-
  The numbers of packets: window, Cut, reaches, Need, Grow.
-/
import Derived.Test.YtomapklkbfjafaaDoorWords
import Derived.Laws.MathBits
import Derived.Lib.Hide
namespace Go.Proofs.YtomapklkbfjafaaDoor
open Go.RowKit
set_option linter.unusedVariables false

theorem and_m1 (z : Int) (h0 : 0 ≤ z) (h1 : z < 18446744073709551616) : bits .and .u64 z 255 = z % 256 := by go_bits2
theorem and_m2 (z : Int) (h0 : 0 ≤ z) (h1 : z < 18446744073709551616) : bits .and .u64 z 65535 = z % 65536 := by go_bits2
theorem and_m3 (z : Int) (h0 : 0 ≤ z) (h1 : z < 18446744073709551616) : bits .and .u64 z 16777215 = z % 16777216 := by go_bits2
theorem and_m4 (z : Int) (h0 : 0 ≤ z) (h1 : z < 18446744073709551616) : bits .and .u64 z 4294967295 = z % 4294967296 := by go_bits2

/-- So many bytes tell so many numbers. -/
def SW (s W : Int) : Prop := s = 1 ∧ W = 256 ∨ s = 2 ∧ W = 65536 ∨ s = 3 ∧ W = 16777216 ∨ s = 4 ∧ W = 4294967296
theorem SW.pos {s W : Int} (h : SW s W) : 256 ≤ W ∧ W ≤ 4294967296 ∧ 1 ≤ s ∧ s ≤ 4 := by unfold SW at h; omega

theorem window_any (s W : Int) (w : World) (h : SW s W) :
    Calls Tryd.prog 27 #[.int .i64 s] w fun e w' => e = .returned (.int .u64 W) ∧ w = w' := by
  rcases h with ⟨rfl, rfl⟩ | ⟨rfl, rfl⟩ | ⟨rfl, rfl⟩ | ⟨rfl, rfl⟩
  all_goals
    go_enter Tryd.func27, Tryd.ntmps27
    go_wp2
    go_ret
    exact ⟨rfl, rfl⟩

theorem cut_num (n s W : Int) (w : World) (h : SW s W) (h0 : 0 ≤ n) (h1 : n < 18446744073709551616) :
    Calls Tryd.prog 28 #[.int .u64 n, .int .i64 s] w fun e w' => e = .returned (.int .u64 (n % W)) ∧ w = w' := by
  have hW := h
  have e1 := and_m1 n h0 h1
  have e2 := and_m2 n h0 h1
  have e3 := and_m3 n h0 h1
  have e4 := and_m4 n h0 h1
  rcases h with ⟨rfl, rfl⟩ | ⟨rfl, rfl⟩ | ⟨rfl, rfl⟩ | ⟨rfl, rfl⟩
  all_goals
    go_enter Tryd.func28, Tryd.ntmps28
    go_wp2_with fail
    refine (window_any _ _ _ hW).mono ?_
    rintro e w' ⟨rfl, rfl⟩
    go_wp2
    go_ret
    exact ⟨rfl, rfl⟩

/-- So many numbers tell this one from the one that was acknowledged. -/
def reachB (pn acked : Int) (b : Bool) (W : Int) : Bool := if b then decide (pn ≤ acked) || decide (pn - acked ≤ W / 2) else decide (pn < W / 2)

theorem reaches_any (pn acked s W : Int) (b : Bool) (w : World) (h : SW s W) (h0 : 0 ≤ pn) (h1 : pn < 18446744073709551616) (h2 : 0 ≤ acked) (h3 : acked < 18446744073709551616) :
    Calls Tryd.prog 26 #[.int .u64 pn, .int .u64 acked, .bool b, .int .i64 s] w fun e w' => e = .returned (.bool (reachB pn acked b W)) ∧ w = w' := by
  obtain ⟨p1, p2, _, _⟩ := h.pos
  have H := Lib.hid h
  clear h
  obtain ⟨r, hr⟩ : ∃ r, r = reachB pn acked b W := ⟨_, rfl⟩
  rw [← hr]
  cases b
  · have hr' : r = decide (pn < W / 2) := by simpa [reachB] using hr
    clear hr
    by_cases c : pn < W / 2
    all_goals
      simp only [c, decide_true, decide_false] at hr'
      subst hr'
      go_enter Tryd.func26, Tryd.ntmps26
      go_wp2_with fail
      refine (window_any _ _ _ H.out).mono ?_
      rintro e w' ⟨rfl, rfl⟩
      go_wp2
      go_ret
      exact ⟨by simp [c], rfl⟩
  · have hr' : r = (decide (pn ≤ acked) || decide (pn - acked ≤ W / 2)) := by simpa [reachB] using hr
    clear hr
    by_cases c : pn ≤ acked
    · simp only [c, decide_true, Bool.true_or] at hr'
      subst hr'
      go_enter Tryd.func26, Tryd.ntmps26
      go_wp2_with fail
      refine (window_any _ _ _ H.out).mono ?_
      rintro e w' ⟨rfl, rfl⟩
      go_wp2
      go_ret
      exact ⟨by simp, rfl⟩
    · by_cases c' : pn - acked ≤ W / 2
      all_goals
        simp only [c, c', decide_true, decide_false, Bool.false_or] at hr'
        subst hr'
        go_enter Tryd.func26, Tryd.ntmps26
        go_wp2_with fail
        refine (window_any _ _ _ H.out).mono ?_
        rintro e w' ⟨rfl, rfl⟩
        go_wp2
        go_ret
        exact ⟨by simp [c']; try omega, rfl⟩

/-- How few bytes tell a number. -/
def needS (pn acked : Int) (b : Bool) : Int := if reachB pn acked b 256 then 1 else if reachB pn acked b 65536 then 2 else if reachB pn acked b 16777216 then 3 else 4
theorem sw1 : SW 1 256 := .inl ⟨rfl, rfl⟩
theorem sw2 : SW 2 65536 := .inr (.inl ⟨rfl, rfl⟩)
theorem sw3 : SW 3 16777216 := .inr (.inr (.inl ⟨rfl, rfl⟩))
theorem sw4 : SW 4 4294967296 := .inr (.inr (.inr ⟨rfl, rfl⟩))

set_option maxHeartbeats 800000 in
theorem need_walk (pn acked : Int) (b r1 r2 r3 : Bool) (R : Int) (w : World)
    (c1 : ∀ w, Calls Tryd.prog 26 #[.int .u64 pn, .int .u64 acked, .bool b, .int .i64 1] w fun e w' => e = .returned (.bool r1) ∧ w = w')
    (c2 : ∀ w, Calls Tryd.prog 26 #[.int .u64 pn, .int .u64 acked, .bool b, .int .i64 2] w fun e w' => e = .returned (.bool r2) ∧ w = w')
    (c3 : ∀ w, Calls Tryd.prog 26 #[.int .u64 pn, .int .u64 acked, .bool b, .int .i64 3] w fun e w' => e = .returned (.bool r3) ∧ w = w')
    (hR : r1 = true ∧ R = 1 ∨ r1 = false ∧ r2 = true ∧ R = 2 ∨ r1 = false ∧ r2 = false ∧ r3 = true ∧ R = 3 ∨ r1 = false ∧ r2 = false ∧ r3 = false ∧ R = 4) :
    Calls Tryd.prog 12 #[.int .u64 pn, .int .u64 acked, .bool b] w fun e w' => e = .returned (.int .i64 R) ∧ w = w' := by
  have C1 := Lib.hid c1
  have C2 := Lib.hid c2
  have C3 := Lib.hid c3
  clear c1 c2 c3
  go_enter Tryd.func12, Tryd.ntmps12
  go_wp2_with fail
  go_loopw [7] (fun i wr => ∃ k : Int, i = .int .i64 k ∧ wr = w ∧ (k = 1 ∨ k = 2 ∧ r1 = false ∨ k = 3 ∧ r1 = false ∧ r2 = false ∨ k = 4 ∧ r1 = false ∧ r2 = false ∧ r3 = false)) (fun i _ => 4 - (intOf i).toNat)
  case atStart => exact ⟨1, rfl, rfl, .inl rfl⟩
  case round =>
    obtain ⟨k, rfl, rfl, hk⟩ := hrel
    rcases hk with rfl | ⟨rfl, rfl⟩ | ⟨rfl, rfl, rfl⟩ | ⟨rfl, rfl, rfl, rfl⟩
    · cases r1
      · go_wp2_with fail
        refine (C1.out _).mono ?_
        rintro e w' ⟨rfl, rfl⟩
        go_wp2
        go_roundw
        case rel => exact ⟨2, rfl, by simp⟩
        case measure => simp [intOf]
      · go_wp2_with fail
        refine (C1.out _).mono ?_
        rintro e w' ⟨rfl, rfl⟩
        go_wp2
        go_ret
        refine ⟨?_, rfl⟩
        rcases hR with ⟨_, rfl⟩ | ⟨h, _⟩ | ⟨h, _⟩ | ⟨h, _⟩ <;> first | rfl | (cases h)
    · cases r2
      · go_wp2_with fail
        refine (C2.out _).mono ?_
        rintro e w' ⟨rfl, rfl⟩
        go_wp2
        go_roundw
        case rel => exact ⟨3, rfl, by simp⟩
        case measure => simp [intOf]
      · go_wp2_with fail
        refine (C2.out _).mono ?_
        rintro e w' ⟨rfl, rfl⟩
        go_wp2
        go_ret
        refine ⟨?_, rfl⟩
        rcases hR with ⟨h, _⟩ | ⟨_, _, rfl⟩ | ⟨_, h, _⟩ | ⟨_, h, _⟩ <;> first | rfl | (cases h)
    · cases r3
      · go_wp2_with fail
        refine (C3.out _).mono ?_
        rintro e w' ⟨rfl, rfl⟩
        go_wp2
        go_roundw
        case rel => exact ⟨4, rfl, by simp⟩
        case measure => simp [intOf]
      · go_wp2_with fail
        refine (C3.out _).mono ?_
        rintro e w' ⟨rfl, rfl⟩
        go_wp2
        go_ret
        refine ⟨?_, rfl⟩
        rcases hR with ⟨h, _⟩ | ⟨_, h, _⟩ | ⟨_, _, _, rfl⟩ | ⟨_, _, h, _⟩ <;> first | rfl | (cases h)
    · go_wp2
      go_ret
      refine ⟨?_, rfl⟩
      rcases hR with ⟨h, _⟩ | ⟨_, h, _⟩ | ⟨_, _, h, _⟩ | ⟨_, _, _, rfl⟩ <;> first | rfl | (cases h)

theorem need_any (pn acked : Int) (b : Bool) (w : World) (h0 : 0 ≤ pn) (h1 : pn < 18446744073709551616) (h2 : 0 ≤ acked) (h3 : acked < 18446744073709551616) :
    Calls Tryd.prog 12 #[.int .u64 pn, .int .u64 acked, .bool b] w fun e w' => e = .returned (.int .i64 (needS pn acked b)) ∧ w = w' := by
  refine need_walk pn acked b (reachB pn acked b 256) (reachB pn acked b 65536) (reachB pn acked b 16777216) _ w (fun w => reaches_any _ _ _ _ _ _ sw1 h0 h1 h2 h3)
    (fun w => reaches_any _ _ _ _ _ _ sw2 h0 h1 h2 h3) (fun w => reaches_any _ _ _ _ _ _ sw3 h0 h1 h2 h3) ?_
  unfold needS
  cases reachB pn acked b 256 <;> cases reachB pn acked b 65536 <;> cases reachB pn acked b 16777216 <;> simp

/-- The number that was meant: the next one is x. -/
def growN (x c W : Int) : Int := if x - x % W + c % W + W / 2 ≤ x ∧ x - x % W + c % W < 4611686018427387904 - W then x - x % W + c % W + W
  else if x + W / 2 < x - x % W + c % W ∧ W ≤ x - x % W + c % W then x - x % W + c % W - W else min (x - x % W + c % W) 4611686018427387903

theorem grow_ways (x n hf W R : Int) (hf0 : 128 ≤ hf) (hx : x ≤ 4611686018427387904) (p1 : 256 ≤ W)
    (hR : R = if n + hf ≤ x ∧ n < 4611686018427387904 - W then n + W else if x + hf < n ∧ W ≤ n then n - W else min n 4611686018427387903) :
    (n + hf ≤ x ∧ n < 4611686018427387904 - W ∧ R = n + W) ∨ (n + hf ≤ x ∧ ¬ n < 4611686018427387904 - W ∧ ¬ x + hf < n ∧ n ≤ 4611686018427387903 ∧ R = n) ∨
      (¬ n + hf ≤ x ∧ x + hf < n ∧ W ≤ n ∧ R = n - W) ∨ (¬ n + hf ≤ x ∧ x + hf < n ∧ ¬ W ≤ n ∧ R = min n 4611686018427387903) ∨
      (¬ n + hf ≤ x ∧ ¬ x + hf < n ∧ n ≤ 4611686018427387903 ∧ R = n) ∨ (¬ n + hf ≤ x ∧ ¬ x + hf < n ∧ 4611686018427387903 < n ∧ R = 4611686018427387903) := by
  by_cases a1 : n + hf ≤ x
  · by_cases a2 : n < 4611686018427387904 - W
    · simp only [a1, a2, and_self, if_true] at hR
      exact .inl ⟨a1, a2, hR⟩
    · have a3 : ¬ x + hf < n := by omega
      simp only [a2, a3, and_false, false_and, if_false] at hR
      exact .inr (.inl ⟨a1, a2, a3, by omega, by omega⟩)
  · by_cases a3 : x + hf < n
    · by_cases a4 : W ≤ n
      · simp only [a1, a3, a4, false_and, and_self, if_false, if_true] at hR
        exact .inr (.inr (.inl ⟨a1, a3, a4, hR⟩))
      · simp only [a1, a4, and_false, false_and, if_false] at hR
        exact .inr (.inr (.inr (.inl ⟨a1, a3, a4, hR⟩)))
    · simp only [a1, a3, false_and, if_false] at hR
      by_cases a5 : n ≤ 4611686018427387903
      · exact .inr (.inr (.inr (.inr (.inl ⟨a1, a3, a5, by omega⟩))))
      · exact .inr (.inr (.inr (.inr (.inr ⟨a1, a3, by omega, by omega⟩))))

set_option maxHeartbeats 3200000 in
theorem grow_any (L c s W x : Int) (b : Bool) (w : World) (h : SW s W) (h0 : 0 ≤ L) (h1 : L < 18446744073709551616) (h2 : 0 ≤ c) (h3 : c < 18446744073709551616)
    (hx : x = if b then min L 4611686018427387903 + 1 else 0) :
    Calls Tryd.prog 13 #[.int .u64 L, .bool b, .int .u64 c, .int .i64 s] w fun e w' => e = .returned (.int .u64 (growN x c W)) ∧ w = w' := by
  obtain ⟨p1, p2, _, _⟩ := h.pos
  have hx0 : 0 ≤ x ∧ x ≤ 4611686018427387904 := by rw [hx]; cases b <;> simp <;> omega
  obtain ⟨R, hR⟩ : ∃ R, R = growN x c W := ⟨_, rfl⟩
  obtain ⟨d, hd⟩ : ∃ d, d = x % W := ⟨_, rfl⟩
  obtain ⟨g, hg⟩ : ∃ g, g = c % W := ⟨_, rfl⟩
  have q1 : 0 ≤ d ∧ d < W ∧ d ≤ x := by
    rw [hd]
    have e1 := Int.emod_add_mul_ediv x W
    have e2 : 0 ≤ W * (x / W) := Int.mul_nonneg (by omega) (Int.ediv_nonneg hx0.1 (by omega))
    exact ⟨Int.emod_nonneg _ (by omega), Int.emod_lt_of_pos _ (by omega), by omega⟩
  have q2 : 0 ≤ g ∧ g < W := by
    rw [hg]
    exact ⟨Int.emod_nonneg _ (by omega), Int.emod_lt_of_pos _ (by omega)⟩
  obtain ⟨n, hn⟩ : ∃ n, n = x - d + g := ⟨_, rfl⟩
  obtain ⟨hf, hhf⟩ : ∃ f, f = W / 2 := ⟨_, rfl⟩
  have hR' : R = if n + hf ≤ x ∧ n < 4611686018427387904 - W then n + W else if x + hf < n ∧ W ≤ n then n - W else min n 4611686018427387903 := by
    rw [hR, growN, hn, hd, hg, hhf]
  rw [← hR]
  have C1 := Lib.hid (fun w => cut_num x s W w h hx0.1 (by omega))
  have C2 := Lib.hid (fun w => cut_num c s W w h h2 h3)
  rw [← hd] at C1
  rw [← hg] at C2
  have HW := Lib.hid (fun w => window_any s W w h)
  have q3 : 0 ≤ n ∧ n < 4611686022722355200 := by omega
  have q4 : 128 ≤ hf ∧ hf ≤ 2147483648 := by omega
  have ways := grow_ways x n hf W R q4.1 hx0.2 p1 hR'
  clear hd hg hR h hR'
  subst hn hhf
  have bx : (b = false ∧ x = 0) ∨ (b = true ∧ L ≤ 4611686018427387903 ∧ x = L + 1) ∨ (b = true ∧ 4611686018427387903 < L ∧ x = 4611686018427387904) := by
    cases b
    · left; exact ⟨rfl, by simpa using hx⟩
    · simp only [if_true] at hx
      by_cases hL : L ≤ 4611686018427387903
      · exact .inr (.inl ⟨rfl, hL, by omega⟩)
      · exact .inr (.inr ⟨rfl, by omega, by omega⟩)
  clear hx
  rcases bx with ⟨rfl, rfl⟩ | ⟨rfl, hL, rfl⟩ | ⟨rfl, hL, rfl⟩
  all_goals
    rcases ways with ⟨k1, k2, rfl⟩ | ⟨k1, k2, k3, k4, rfl⟩ | ⟨k1, k2, k3, rfl⟩ | ⟨k1, k2, k3, rfl⟩ | ⟨k1, k2, k3, rfl⟩ | ⟨k1, k2, k3, rfl⟩
  all_goals
    go_enter Tryd.func13, Tryd.ntmps13
    go_wp2_with fail
    refine (HW.out _).mono ?_
    rintro e w' ⟨rfl, rfl⟩
    go_wp2_with fail
    refine (C1.out _).mono ?_
    rintro e w' ⟨rfl, rfl⟩
    go_wp2_with fail
    refine (C2.out _).mono ?_
    rintro e w' ⟨rfl, rfl⟩
    go_wp2
    all_goals
      go_ret
      first | exact ⟨rfl, rfl⟩ | exact ⟨congrArg (fun z => Ending.returned (Value.int .u64 z)) (by omega), rfl⟩
end Go.Proofs.YtomapklkbfjafaaDoor
