import Derived.Test.YtpedajjmbdjfiaaPolyA
namespace Go.Proofs.Ytpedajjmbdjfiaa
open Go.RowKit
set_option linter.unusedVariables false

theorem and_not3 (c : Nat) (h : c < 18446744073709551616) : c &&& 18446744073709551612 = 4 * (c / 4) := by
  apply Nat.eq_of_testBit_eq
  intro i
  have e1 : 4 * (c / 4) = (c / 2 ^ 2) <<< 2 := by rw [Nat.shiftLeft_eq]; omega
  have e2 : (18446744073709551612 : Nat) = (2 ^ 62 - 1) <<< 2 := by rw [Nat.shiftLeft_eq]
  rw [e1, e2, Nat.testBit_and, Nat.testBit_shiftLeft, Nat.testBit_shiftLeft, Nat.testBit_two_pow_sub_one, Nat.testBit_div_two_pow]
  by_cases hi : 2 ≤ i
  · simp only [ge_iff_le, hi, decide_true, Bool.true_and]
    rw [show i - 2 + 2 = i by omega]
    by_cases h64 : i < 64
    · simp [show i - 2 < 62 by omega]
    · have h64' : 64 ≤ i := Nat.le_of_not_lt h64
      have hp : (2 : Nat) ^ 64 ≤ 2 ^ i := Nat.pow_le_pow_right (by decide) h64'
      have hq : (2 : Nat) ^ 64 = 18446744073709551616 := by decide
      rw [hq] at hp
      have : c.testBit i = false := Nat.testBit_lt_two_pow (Nat.lt_of_lt_of_le h hp)
      simp [this]
  · simp [hi]
theorem or_two (c d : Nat) (hc : c < 18446744073709551616) : c / 4 ||| d * 4611686018427387904 % 18446744073709551616 = c / 4 + d % 4 * 4611686018427387904 := by
  have e : d * 4611686018427387904 % 18446744073709551616 = d % 4 * 4611686018427387904 := by omega
  have h62 : (2 : Nat) ^ 62 = 4611686018427387904 := by decide
  have j := nat_join 62 (d % 4 * 4611686018427387904) (c / 4) (by rw [h62]; exact Nat.mul_mod_left _ _) (by rw [h62]; omega)
  rw [e, Nat.or_comm, j, Nat.add_comm]

theorem carry_le {x y k : Nat} (hx : x < 18446744073709551616) (hy : y < 18446744073709551616) (hk : k ≤ 1) : (x + y + k) / 18446744073709551616 ≤ 1 := by omega
theorem carry_le0 {x y : Nat} (hx : x < 18446744073709551616) (hy : y < 18446744073709551616) : (x + y) / 18446744073709551616 ≤ 1 := by omega
theorem m64_lt (x : Nat) : x % 18446744073709551616 < 18446744073709551616 := Nat.mod_lt _ (by decide)
theorem f0_lt {c : Nat} (hc : c < 18446744073709551616) : 4 * (c / 4) < 18446744073709551616 := by omega
theorem o0_lt {c d : Nat} (hc : c < 18446744073709551616) : c / 4 + d % 4 * 4611686018427387904 < 18446744073709551616 := by omega
theorem v1_lt {d q : Nat} (hd : d < 9223372036854775808) (hq : q ≤ 1) : d + d / 4 + q < 18446744073709551616 := by omega
theorem fold_val (a b c d f0 o0 o1 c3 q0 v0 v1 n0 k1 n1 k2 : Nat) (h1 : f0 = 4 * (c / 4)) (h2 : o0 = c / 4 + d % 4 * 4611686018427387904) (h3 : o1 = d / 4) (h4 : c3 = c % 4)
    (h5 : v0 + 18446744073709551616 * q0 = f0 + o0) (h6 : v1 = d + o1 + q0) (h7 : n0 + 18446744073709551616 * k1 = a + v0) (h8 : n1 + 18446744073709551616 * k2 = b + v1 + k1) :
    n0 + n1 * 18446744073709551616 + (c3 + k2) * 340282366920938463463374607431768211456 = a + b * 18446744073709551616 + 5 * ((c + d * 18446744073709551616) / 4) + c % 4 * 340282366920938463463374607431768211456 := by
  have h9 : (c + d * 18446744073709551616) / 4 = c / 4 + d * 4611686018427387904 := by omega
  rw [h9, ← h4]
  clear h9 h4
  obtain ⟨x, hx⟩ : ∃ x, x = c / 4 := ⟨_, rfl⟩
  rw [← hx] at h1 h2 ⊢
  clear hx
  obtain ⟨y, z, hy⟩ : ∃ y z, d = 4 * y + z ∧ d / 4 = y ∧ d % 4 = z := ⟨d / 4, d % 4, by omega, rfl, rfl⟩
  obtain ⟨hd, e1, e2⟩ := hy
  rw [e2] at h2
  rw [e1] at h3
  clear e1 e2
  subst h1 h2 h3 hd
  omega

set_option maxHeartbeats 1600000 in
theorem fold_any (a b c d : Nat) (ha : a < 18446744073709551616) (hb : b < 18446744073709551616) (hc : c < 18446744073709551616) (hd : d < 9223372036854775808) (w : World) :
    Calls Try.prog 51 #[.agg #[.int .u64 a, .int .u64 b], .agg #[.int .u64 c, .int .u64 d]] w fun e w' => ∃ n0 n1 n2 : Nat,
      e = .returned (.agg #[.int .u64 n0, .int .u64 n1, .int .u64 n2]) ∧ n0 < 18446744073709551616 ∧ n1 < 18446744073709551616 ∧
      n0 + n1 * 18446744073709551616 + n2 * 340282366920938463463374607431768211456 = a + b * 18446744073709551616 + 5 * ((c + d * 18446744073709551616) / 4) + c % 4 * 340282366920938463463374607431768211456 ∧ Below w.heap.size w w' := by
  obtain ⟨f0, hf0⟩ : ∃ f0, f0 = 4 * (c / 4) := ⟨_, rfl⟩
  obtain ⟨o0, ho0⟩ : ∃ o0, o0 = c / 4 + d % 4 * 4611686018427387904 := ⟨_, rfl⟩
  obtain ⟨o1, ho1⟩ : ∃ o1, o1 = d / 4 := ⟨_, rfl⟩
  obtain ⟨c3, hc3⟩ : ∃ c3, c3 = c % 4 := ⟨_, rfl⟩
  have e1 : bits .andNot .u64 (c : Int) 3 = (f0 : Int) := by
    have h := u64_andNot_nat c 3 hc (by omega)
    rw [show 18446744073709551615 - 3 = 18446744073709551612 from rfl, and_not3 c hc, ← hf0] at h
    exact h
  have e2 : bits .or .u64 ((c : Int) / 4) ((d : Int) * 4611686018427387904 % 18446744073709551616) = (o0 : Int) := by
    have h := u64_or_nat (c / 4) (d * 4611686018427387904 % 18446744073709551616) (Nat.lt_of_le_of_lt (Nat.div_le_self _ _) hc) (m64_lt _)
    have q1 : ((c / 4 : Nat) : Int) = (c : Int) / 4 := Int.natCast_ediv c 4
    have q2 : ((d * 4611686018427387904 % 18446744073709551616 : Nat) : Int) = (d : Int) * 4611686018427387904 % 18446744073709551616 := by rw [Int.natCast_emod, Int.natCast_mul]; rfl
    rw [or_two c d hc, ← ho0, q1, q2] at h
    exact h
  have e2' : bits .or .u64 ((c : Int) / 4) (IntKind.u64.wrap ((d : Int) * 4611686018427387904)) = (o0 : Int) := by rw [IntKind.wrap_u64]; exact e2
  clear e2
  have e3 : (d : Int) / 4 = (o1 : Int) := by rw [ho1]; exact (Int.natCast_ediv d 4).symm
  have e4 : bits .and .u64 (c : Int) 3 = (c3 : Int) := by
    have h := u64_and_nat c 3 hc (by omega)
    rw [nat_mask2, ← hc3] at h
    exact h
  obtain ⟨v0, hv0⟩ : ∃ v0, v0 = (f0 + o0) % 18446744073709551616 := ⟨_, rfl⟩
  obtain ⟨v1, hv1⟩ : ∃ v1, v1 = (d + o1 + (f0 + o0) / 18446744073709551616) % 18446744073709551616 := ⟨_, rfl⟩
  have CP := Lib.hid (fun W => plus_any f0 d o0 o1 (hf0 ▸ f0_lt hc) (ho0 ▸ o0_lt hc) W)
  rw [← hv0, ← hv1] at CP
  obtain ⟨n0, hn0⟩ : ∃ n0, n0 = (a + v0) % 18446744073709551616 := ⟨_, rfl⟩
  obtain ⟨k1, hk1⟩ : ∃ k1, k1 = (a + v0) / 18446744073709551616 := ⟨_, rfl⟩
  have hv0b : v0 < 18446744073709551616 := hv0 ▸ m64_lt _
  have hv1b : v1 < 18446744073709551616 := hv1 ▸ m64_lt _
  have hk1' : k1 ≤ 1 := hk1 ▸ carry_le0 ha hv0b
  obtain ⟨n1, hn1⟩ : ∃ n1, n1 = (b + v1 + k1) % 18446744073709551616 := ⟨_, rfl⟩
  obtain ⟨k2, hk2⟩ : ∃ k2, k2 = (b + v1 + k1) / 18446744073709551616 := ⟨_, rfl⟩
  have r0 := add64_run0 a v0
  have r1 := add64_run b v1 k1 hk1'
  rw [← hn0, ← hk1] at r0
  rw [← hn1, ← hk2] at r1
  have hval := fold_val a b c d f0 o0 o1 c3 ((f0 + o0) / 18446744073709551616) v0 v1 n0 k1 n1 k2 hf0 ho0 ho1 hc3 (by rw [hv0]; exact Nat.mod_add_div _ _) (by rw [hv1, ho1]; exact Nat.mod_eq_of_lt (v1_lt hd (carry_le0 (hf0 ▸ f0_lt hc) (ho0 ▸ o0_lt hc)))) (by rw [hn0, hk1]; exact Nat.mod_add_div _ _) (by rw [hn1, hk2]; exact Nat.mod_add_div _ _)
  have HV := Lib.hid hval
  have HN0 := Lib.hid (show n0 < 18446744073709551616 from hn0 ▸ m64_lt _)
  have HN1 := Lib.hid (show n1 < 18446744073709551616 from hn1 ▸ m64_lt _)
  have k2b : k2 ≤ 1 := hk2 ▸ carry_le hb hv1b hk1'
  have c3b : c3 ≤ 3 := by rw [hc3]; exact Nat.le_of_lt_succ (Nat.mod_lt _ (by decide))
  clear hval hf0 ho0 ho1 hc3 hv0 hv1 hn0 hk1 hn1 hk2 ha hb hk1' hv0b hv1b
  go_enter Try.func51, Try.ntmps51
  go_wp2_with fail
  refine (CP.out _).mono ?_
  rintro e w1 ⟨rfl, b1⟩
  have bw : Below w.heap.size w w1 := ((((((Below.refl _ _).alloc (Nat.le_refl _) _).alloc (by simp) _).alloc (by simp; omega) _).alloc (by simp; omega) _).alloc (by simp; omega) _).trans (b1.mono (by simp; omega))
  have k0 : Blk w1 w.heap.size 72 #[.int .u64 a, .int .u64 b] := (((((Blk.new w _ _).alloc _).alloc _).alloc _).alloc _).below b1 (by simp <;> omega)
  have k1' : Blk w1 (w.heap.size + 1) 72 #[.int .u64 c, .int .u64 d] := ((((blk_second w _ _ _).alloc _).alloc _).alloc _).below b1 (by simp <;> omega)
  have k2' : Blk w1 (w.heap.size + 1 + 1) 74 #[.int .u64 0, .int .u64 0, .int .u64 0] := by
    have h := blk_second (w.alloc (.cells #[.int .u64 a, .int .u64 b] 72)) (.cells #[.int .u64 c, .int .u64 d] 72) 74 #[.int .u64 0, .int .u64 0, .int .u64 0]
    rw [show (w.alloc (.cells #[.int .u64 a, .int .u64 b] 72)).heap.size = w.heap.size + 1 by simp] at h
    exact ((h.alloc _).alloc _).below b1 (by simp <;> omega)
  have q0 : w1.cell? ⟨w.heap.size, 0, none⟩ = some (.int .u64 a) := k0.cell 0
  have q1 : w1.cell? ⟨w.heap.size, 1, none⟩ = some (.int .u64 b) := k0.cell 1
  have q2 : w1.cell? ⟨w.heap.size + 1, 0, none⟩ = some (.int .u64 c) := k1'.cell 0
  have q3 : w1.cell? ⟨w.heap.size + 1, 1, none⟩ = some (.int .u64 d) := k1'.cell 1
  have q4 : w1.cell? ⟨w.heap.size + 1 + 1, 0, none⟩ = some (.int .u64 0) := k2'.cell 0
  have q5 : w1.cell? ⟨w.heap.size + 1 + 1, 1, none⟩ = some (.int .u64 0) := k2'.cell 1
  have q6 : w1.cell? ⟨w.heap.size + 1 + 1, 2, none⟩ = some (.int .u64 0) := k2'.cell 2
  have g4 := k2'.frozen 0
  have g5 := k2'.frozen 1
  have g6 := k2'.frozen 2
  have lt1 : w.heap.size + 1 + 1 < w1.heap.size := k2'.lt
  have lt2 : w.heap.size + 1 < w1.heap.size := by omega
  have lt3 : w.heap.size < w1.heap.size := by omega
  have ne0 := World.new_ne w1 _ q0
  have ne1 := World.new_ne w1 _ q2
  have ne2 := World.new_ne w1 _ q4
  have BW := Lib.hid bw
  have K2H := Lib.hid k2'
  clear b1 k0 k1' k2' bw CP
  go_wp2_with fail
  have hfin := (((K2H.out.set_ 0 (.int .u64 n0)).set_ 1 (.int .u64 n1)).set_ 2 (.int .u64 ((c3 : Int) + k2))).alloc (.cells #[.int .u64 v0, .int .u64 v1] 72)
  have hb := (((BW.out.setCell (p := ⟨w.heap.size + 1 + 1, 0, none⟩) (by simp; omega) (.int .u64 n0)).setCell (p := ⟨w.heap.size + 1 + 1, 1, none⟩) (by simp; omega) (.int .u64 n1)).setCell (p := ⟨w.heap.size + 1 + 1, 2, none⟩) (by simp; omega) (.int .u64 ((c3 : Int) + k2))).alloc (by simp; omega) (.cells #[.int .u64 v0, .int .u64 v1] 72)
  refine bodyPost_ret (v := .agg #[.int .u64 n0, .int .u64 n1, .int .u64 ((c3 : Int) + k2)]) (results_cell_row rfl _ _ (w.heap.size + 1 + 1) 74 _ (0, 0) _ rfl hfin Try.underlying74 rfl (by kernel_rfl)) rfl ⟨n0, n1, c3 + k2, by simp, HN0.out, HN1.out, HV.out, hb⟩
end Go.Proofs.Ytpedajjmbdjfiaa
