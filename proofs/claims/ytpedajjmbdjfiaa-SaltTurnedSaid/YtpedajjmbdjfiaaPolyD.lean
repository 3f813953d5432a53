import Derived.Test.YtpedajjmbdjfiaaPolyC
namespace Go.Proofs.Ytpedajjmbdjfiaa
open Go.RowKit
set_option linter.unusedVariables false
set_option linter.unusedSimpArgs false

theorem xor_pick (x y : Nat) : x ^^^ (x ^^^ y) = y := by
  rw [← Nat.xor_assoc, Nat.xor_self, Nat.zero_xor]
theorem and_all64 (x : Nat) (h : x < 18446744073709551616) : x &&& 18446744073709551615 = x := by
  have := Nat.and_two_pow_sub_one_eq_mod x 64
  rw [show (2 : Nat) ^ 64 - 1 = 18446744073709551615 from by decide, show (2 : Nat) ^ 64 = 18446744073709551616 from by decide, Nat.mod_eq_of_lt h] at this
  exact this
/-- What is left of a number below 2p, p = 2^130 - 5, in its lowest 128 bits. -/
theorem reduce_val (x0 x1 x2 lo hi c0 c1 : Nat) (h0 : x0 < 18446744073709551616) (h1 : x1 < 18446744073709551616) (v : Nat) (hv : v = x0 + x1 * 18446744073709551616 + x2 * 340282366920938463463374607431768211456)
    (hlt : v < 2722258935367507707706996859454145691638) (e0 : lo + 18446744073709551616 * c0 = x0 + 5) (e1 : hi + 18446744073709551616 * c1 = x1 + c0) (l0 : lo < 18446744073709551616) (l1 : hi < 18446744073709551616) :
    x2 + c1 ≤ 7 ∧ ((x2 + c1) / 4 = 0 → v % 1361129467683753853853498429727072845819 % 340282366920938463463374607431768211456 = x0 + x1 * 18446744073709551616)
      ∧ ((x2 + c1) / 4 = 1 → v % 1361129467683753853853498429727072845819 % 340282366920938463463374607431768211456 = lo + hi * 18446744073709551616) := by
  have hs : lo + hi * 18446744073709551616 + (x2 + c1) * 340282366920938463463374607431768211456 = v + 5 := by omega
  refine ⟨by omega, fun h => ?_, fun h => ?_⟩
  · have : v < 1361129467683753853853498429727072845819 := by omega
    rw [Nat.mod_eq_of_lt this]
    omega
  · have h2 : v = 1361129467683753853853498429727072845819 + (v - 1361129467683753853853498429727072845819) := by omega
    have h3 : v % 1361129467683753853853498429727072845819 = v - 1361129467683753853853498429727072845819 := by omega
    rw [h3]
    omega

theorem u64_pick0 (x y : Nat) (hx : x < 18446744073709551616) (hy : y < 18446744073709551616) : bits .xor .u64 (x : Int) (bits .and .u64 (bits .xor .u64 (x : Int) (y : Int)) 0) = (x : Int) := by
  have hz : x ^^^ y < 18446744073709551616 := Nat.xor_lt_two_pow (n := 64) hx hy
  rw [u64_xor_nat x y hx hy, show (0 : Int) = ((0 : Nat) : Int) from rfl, u64_and_nat _ 0 hz (by decide), Nat.and_zero, u64_xor_nat x 0 hx (by decide), Nat.xor_zero]
theorem u64_pick1 (x y : Nat) (hx : x < 18446744073709551616) (hy : y < 18446744073709551616) : bits .xor .u64 (x : Int) (bits .and .u64 (bits .xor .u64 (x : Int) (y : Int)) (IntKind.u64.wrap (-1))) = (y : Int) := by
  have hz : x ^^^ y < 18446744073709551616 := Nat.xor_lt_two_pow (n := 64) hx hy
  rw [u64_xor_nat x y hx hy, show IntKind.u64.wrap (-1) = ((18446744073709551615 : Nat) : Int) from by decide, u64_and_nat _ 18446744073709551615 hz (by decide), and_all64 _ hz, u64_xor_nat x (x ^^^ y) hx hz, xor_pick]

set_option maxHeartbeats 800000 in
theorem reduce_any (x0 x1 x2 : Nat) (h0 : x0 < 18446744073709551616) (h1 : x1 < 18446744073709551616) (v : Nat) (hv : v = x0 + x1 * 18446744073709551616 + x2 * 340282366920938463463374607431768211456)
    (hlt : v < 2722258935367507707706996859454145691638) (w : World) :
    Calls Try.prog 39 #[.agg #[.int .u64 x0, .int .u64 x1, .int .u64 x2]] w fun e w' => ∃ r0 r1 : Nat,
      e = .returned (.agg #[.int .u64 r0, .int .u64 r1]) ∧ r0 < 18446744073709551616 ∧ r1 < 18446744073709551616 ∧
      r0 + r1 * 18446744073709551616 = v % 1361129467683753853853498429727072845819 % 340282366920938463463374607431768211456 ∧ Below w.heap.size w w' := by
  obtain ⟨lo, hlo⟩ : ∃ q, q = (x0 + 5) % 18446744073709551616 := ⟨_, rfl⟩
  obtain ⟨c0, hc0⟩ : ∃ q, q = (x0 + 5) / 18446744073709551616 := ⟨_, rfl⟩
  have kc0 : c0 ≤ 1 := by rw [hc0]; exact carry_le0 h0 (by decide)
  obtain ⟨hi, hhi⟩ : ∃ q, q = (x1 + 0 + c0) % 18446744073709551616 := ⟨_, rfl⟩
  obtain ⟨c1, hc1⟩ : ∃ q, q = (x1 + 0 + c0) / 18446744073709551616 := ⟨_, rfl⟩
  have kc1 : c1 ≤ 1 := by rw [hc1]; exact carry_le h1 (by decide) kc0
  have r0 := add64_run0 x0 5
  have r1 := add64_run x1 0 c0 kc0
  rw [← hlo, ← hc0, show ((5 : Nat) : Int) = 5 from rfl] at r0
  rw [← hhi, ← hc1, show ((0 : Nat) : Int) = 0 from rfl] at r1
  have llo : lo < 18446744073709551616 := hlo ▸ m64_lt _
  have lhi : hi < 18446744073709551616 := hhi ▸ m64_lt _
  obtain ⟨a1, a2, a3⟩ := reduce_val x0 x1 x2 lo hi c0 c1 h0 h1 v hv hlt (by rw [hlo, hc0]; exact Nat.mod_add_div _ _) (by rw [hhi, hc1]; exact Nat.mod_add_div (x1 + 0 + c0) _) llo lhi
  have R := Lib.hid (And.intro a2 a3)
  have x2b : x2 ≤ 7 := Nat.le_trans (Nat.le_add_right _ _) a1
  clear hlo hc0 hhi hc1 a2 a3 hv hlt
  obtain ⟨k, hk⟩ : ∃ q, q = (x2 + c1) / 4 := ⟨_, rfl⟩
  rw [← hk] at R
  have ek : ((x2 : Int) + (c1 : Int)) / 4 = (k : Int) := by rw [hk]; omega
  have hk1 : k ≤ 1 := by omega
  clear hk
  rcases (show k = 0 ∨ k = 1 by omega) with rfl | rfl
  · have ha := u64_pick0 x0 lo h0 llo
    have hb := u64_pick0 x1 hi h1 lhi
    go_enter Try.func39, Try.ntmps39
    go_wp2_with fail
    refine bodyPost_ret (v := .agg #[.int .u64 x0, .int .u64 x1]) (by simp [results, Try.results39, go_sem, ha, hb]) rfl ⟨x0, x1, rfl, h0, h1, (R.out.1 (by trivial)).symm, ?_⟩
    exact ((Below.refl _ _).alloc (Nat.le_refl _) _).alloc (by simp) _
  · have ha := u64_pick1 x0 lo h0 llo
    have hb := u64_pick1 x1 hi h1 lhi
    go_enter Try.func39, Try.ntmps39
    go_wp2_with fail
    refine bodyPost_ret (v := .agg #[.int .u64 lo, .int .u64 hi]) (by simp [results, Try.results39, go_sem, ha, hb]) rfl ⟨lo, hi, rfl, llo, lhi, (R.out.2 (by trivial)).symm, ?_⟩
    exact ((Below.refl _ _).alloc (Nat.le_refl _) _).alloc (by simp) _
end Go.Proofs.Ytpedajjmbdjfiaa
