/-
  Joined texts.
-/
import Derived.Test.YtjibbegdieiknaaDoorMaAB
import Derived.Deep.RegionHeld3
import Derived.Deep.DeepCutAuto
namespace Go.Proofs.YtjibbegdieiknaaDoor
open Go.RowKit
set_option linter.unusedVariables false

theorem and_not3 (c : Nat) (h : c < 18446744073709551616) : c &&& 18446744073709551612 = 4 * (c / 4) := by
  apply Nat.eq_of_testBit_eq
  intro i
  have e1 : 4 * (c / 4) = (c / 2 ^ 2) <<< 2 := by rw [Nat.shiftLeft_eq]; omega
  have e2 : (18446744073709551612 : Nat) = (2 ^ 62 - 1) <<< 2 := by rw [Nat.shiftLeft_eq]
  rw [e1, e2, Nat.testBit_and, Nat.testBit_shiftLeft, Nat.testBit_shiftLeft, Nat.testBit_two_pow_sub_one, Nat.testBit_div_two_pow]
  by_cases hi : 2 ≤ i
  · simp only [ge_iff_le, hi, decide_true, Bool.true_and]
    rw [show i - 2 + 2 = i by omega]
    by_cases h64 : i < 64
    · simp [show i - 2 < 62 by omega]
    · have h64' : 64 ≤ i := Nat.le_of_not_lt h64
      have hp : (2 : Nat) ^ 64 ≤ 2 ^ i := Nat.pow_le_pow_right (by decide) h64'
      have hq : (2 : Nat) ^ 64 = 18446744073709551616 := by decide
      rw [hq] at hp
      have : c.testBit i = false := Nat.testBit_lt_two_pow (Nat.lt_of_lt_of_le h hp)
      simp [this]
  · simp [hi]
theorem or_two (c d : Nat) (hc : c < 18446744073709551616) : c / 4 ||| d * 4611686018427387904 % 18446744073709551616 = c / 4 + d % 4 * 4611686018427387904 := by
  have e : d * 4611686018427387904 % 18446744073709551616 = d % 4 * 4611686018427387904 := by omega
  have h62 : (2 : Nat) ^ 62 = 4611686018427387904 := by decide
  have j := nat_join 62 (d % 4 * 4611686018427387904) (c / 4) (by rw [h62]; exact Nat.mul_mod_left _ _) (by rw [h62]; omega)
  rw [e, Nat.or_comm, j, Nat.add_comm]

theorem carry_le {x y k : Nat} (hx : x < 18446744073709551616) (hy : y < 18446744073709551616) (hk : k ≤ 1) : (x + y + k) / 18446744073709551616 ≤ 1 := by omega
theorem carry_le0 {x y : Nat} (hx : x < 18446744073709551616) (hy : y < 18446744073709551616) : (x + y) / 18446744073709551616 ≤ 1 := by omega
theorem m64_lt (x : Nat) : x % 18446744073709551616 < 18446744073709551616 := Nat.mod_lt _ (by decide)
theorem f0_lt {c : Nat} (hc : c < 18446744073709551616) : 4 * (c / 4) < 18446744073709551616 := by omega
theorem o0_lt {c d : Nat} (hc : c < 18446744073709551616) : c / 4 + d % 4 * 4611686018427387904 < 18446744073709551616 := by omega
theorem v1_lt {d q : Nat} (hd : d < 9223372036854775808) (hq : q ≤ 1) : d + d / 4 + q < 18446744073709551616 := by omega
theorem fold_val (a b c d f0 o0 o1 c3 q0 v0 v1 n0 k1 n1 k2 : Nat) (h1 : f0 = 4 * (c / 4)) (h2 : o0 = c / 4 + d % 4 * 4611686018427387904) (h3 : o1 = d / 4) (h4 : c3 = c % 4)
    (h5 : v0 + 18446744073709551616 * q0 = f0 + o0) (h6 : v1 = d + o1 + q0) (h7 : n0 + 18446744073709551616 * k1 = a + v0) (h8 : n1 + 18446744073709551616 * k2 = b + v1 + k1) :
    n0 + n1 * 18446744073709551616 + (c3 + k2) * 340282366920938463463374607431768211456 = a + b * 18446744073709551616 + 5 * ((c + d * 18446744073709551616) / 4) + c % 4 * 340282366920938463463374607431768211456 := by
  have h9 : (c + d * 18446744073709551616) / 4 = c / 4 + d * 4611686018427387904 := by omega
  rw [h9, ← h4]
  clear h9 h4
  obtain ⟨x, hx⟩ : ∃ x, x = c / 4 := ⟨_, rfl⟩
  rw [← hx] at h1 h2 ⊢
  clear hx
  obtain ⟨y, z, hy⟩ : ∃ y z, d = 4 * y + z ∧ d / 4 = y ∧ d % 4 = z := ⟨d / 4, d % 4, by omega, rfl, rfl⟩
  obtain ⟨hd, e1, e2⟩ := hy
  rw [e2] at h2
  rw [e1] at h3
  clear e1 e2
  subst h1 h2 h3 hd
  omega

set_option maxHeartbeats 1600000 in
theorem fold_any (a b c d : Nat) (ha : a < 18446744073709551616) (hb : b < 18446744073709551616) (hc : c < 18446744073709551616) (hd : d < 9223372036854775808) (w : World) :
    Calls Tryd.prog 99 #[.agg #[.int .u64 a, .int .u64 b], .agg #[.int .u64 c, .int .u64 d]] w fun e w' => ∃ n0 n1 n2 : Nat,
      e = .returned (.agg #[.int .u64 n0, .int .u64 n1, .int .u64 n2]) ∧ n0 < 18446744073709551616 ∧ n1 < 18446744073709551616 ∧
      n0 + n1 * 18446744073709551616 + n2 * 340282366920938463463374607431768211456 = a + b * 18446744073709551616 + 5 * ((c + d * 18446744073709551616) / 4) + c % 4 * 340282366920938463463374607431768211456 ∧ Below w.heap.size w w' := by
  obtain ⟨f0, hf0⟩ : ∃ f0, f0 = 4 * (c / 4) := ⟨_, rfl⟩
  obtain ⟨o0, ho0⟩ : ∃ o0, o0 = c / 4 + d % 4 * 4611686018427387904 := ⟨_, rfl⟩
  obtain ⟨o1, ho1⟩ : ∃ o1, o1 = d / 4 := ⟨_, rfl⟩
  obtain ⟨c3, hc3⟩ : ∃ c3, c3 = c % 4 := ⟨_, rfl⟩
  have e1 : bits .andNot .u64 (c : Int) 3 = (f0 : Int) := by
    have h := u64_andNot_nat c 3 hc (by omega)
    rw [show 18446744073709551615 - 3 = 18446744073709551612 from rfl, and_not3 c hc, ← hf0] at h
    exact h
  have e2 : bits .or .u64 ((c : Int) / 4) ((d : Int) * 4611686018427387904 % 18446744073709551616) = (o0 : Int) := by
    have h := u64_or_nat (c / 4) (d * 4611686018427387904 % 18446744073709551616) (Nat.lt_of_le_of_lt (Nat.div_le_self _ _) hc) (m64_lt _)
    have q1 : ((c / 4 : Nat) : Int) = (c : Int) / 4 := Int.natCast_ediv c 4
    have q2 : ((d * 4611686018427387904 % 18446744073709551616 : Nat) : Int) = (d : Int) * 4611686018427387904 % 18446744073709551616 := by rw [Int.natCast_emod, Int.natCast_mul]; rfl
    rw [or_two c d hc, ← ho0, q1, q2] at h
    exact h
  have e2' : bits .or .u64 ((c : Int) / 4) (IntKind.u64.wrap ((d : Int) * 4611686018427387904)) = (o0 : Int) := by rw [IntKind.wrap_u64]; exact e2
  clear e2
  have e3 : (d : Int) / 4 = (o1 : Int) := by rw [ho1]; exact (Int.natCast_ediv d 4).symm
  have e4 : bits .and .u64 (c : Int) 3 = (c3 : Int) := by
    have h := u64_and_nat c 3 hc (by omega)
    rw [nat_mask2, ← hc3] at h
    exact h
  obtain ⟨v0, hv0⟩ : ∃ v0, v0 = (f0 + o0) % 18446744073709551616 := ⟨_, rfl⟩
  obtain ⟨v1, hv1⟩ : ∃ v1, v1 = (d + o1 + (f0 + o0) / 18446744073709551616) % 18446744073709551616 := ⟨_, rfl⟩
  have CP := Lib.hid (fun W => plus_any f0 d o0 o1 (hf0 ▸ f0_lt hc) (ho0 ▸ o0_lt hc) W)
  rw [← hv0, ← hv1] at CP
  obtain ⟨n0, hn0⟩ : ∃ n0, n0 = (a + v0) % 18446744073709551616 := ⟨_, rfl⟩
  obtain ⟨k1, hk1⟩ : ∃ k1, k1 = (a + v0) / 18446744073709551616 := ⟨_, rfl⟩
  have hv0b : v0 < 18446744073709551616 := hv0 ▸ m64_lt _
  have hv1b : v1 < 18446744073709551616 := hv1 ▸ m64_lt _
  have hk1' : k1 ≤ 1 := hk1 ▸ carry_le0 ha hv0b
  obtain ⟨n1, hn1⟩ : ∃ n1, n1 = (b + v1 + k1) % 18446744073709551616 := ⟨_, rfl⟩
  obtain ⟨k2, hk2⟩ : ∃ k2, k2 = (b + v1 + k1) / 18446744073709551616 := ⟨_, rfl⟩
  have r0 := add64_run0 a v0
  have r1 := add64_run b v1 k1 hk1'
  rw [← hn0, ← hk1] at r0
  rw [← hn1, ← hk2] at r1
  have hval := fold_val a b c d f0 o0 o1 c3 ((f0 + o0) / 18446744073709551616) v0 v1 n0 k1 n1 k2 hf0 ho0 ho1 hc3 (by rw [hv0]; exact Nat.mod_add_div _ _) (by rw [hv1, ho1]; exact Nat.mod_eq_of_lt (v1_lt hd (carry_le0 (hf0 ▸ f0_lt hc) (ho0 ▸ o0_lt hc)))) (by rw [hn0, hk1]; exact Nat.mod_add_div _ _) (by rw [hn1, hk2]; exact Nat.mod_add_div _ _)
  have HV := Lib.hid hval
  have HN0 := Lib.hid (show n0 < 18446744073709551616 from hn0 ▸ m64_lt _)
  have HN1 := Lib.hid (show n1 < 18446744073709551616 from hn1 ▸ m64_lt _)
  have k2b : k2 ≤ 1 := hk2 ▸ carry_le hb hv1b hk1'
  have c3b : c3 ≤ 3 := by rw [hc3]; exact Nat.le_of_lt_succ (Nat.mod_lt _ (by decide))
  clear hval hf0 ho0 ho1 hc3 hv0 hv1 hn0 hk1 hn1 hk2 ha hb hk1' hv0b hv1b
  go_enter Tryd.func99, Tryd.ntmps99
  go_wp2_with fail
  refine (CP.out _).mono ?_
  rintro e w1 ⟨rfl, b1⟩
  have bw : Below w.heap.size w w1 := ((((((Below.refl _ _).alloc (Nat.le_refl _) _).alloc (by simp) _).alloc (by simp; omega) _).alloc (by simp; omega) _).alloc (by simp; omega) _).trans (b1.mono (by simp; omega))
  have k0 : Blk w1 w.heap.size 120 #[.int .u64 a, .int .u64 b] := (((((Blk.new w _ _).alloc _).alloc _).alloc _).alloc _).below b1 (by simp <;> omega)
  have k1' : Blk w1 (w.heap.size + 1) 120 #[.int .u64 c, .int .u64 d] := ((((blk_second w _ _ _).alloc _).alloc _).alloc _).below b1 (by simp <;> omega)
  have k2' : Blk w1 (w.heap.size + 1 + 1) 122 #[.int .u64 0, .int .u64 0, .int .u64 0] := by
    have h := blk_second (w.alloc (.cells #[.int .u64 a, .int .u64 b] 120)) (.cells #[.int .u64 c, .int .u64 d] 120) 122 #[.int .u64 0, .int .u64 0, .int .u64 0]
    rw [show (w.alloc (.cells #[.int .u64 a, .int .u64 b] 120)).heap.size = w.heap.size + 1 by simp] at h
    exact ((h.alloc _).alloc _).below b1 (by simp <;> omega)
  have q0 : w1.cell? ⟨w.heap.size, 0, none⟩ = some (.int .u64 a) := k0.cell 0
  have q1 : w1.cell? ⟨w.heap.size, 1, none⟩ = some (.int .u64 b) := k0.cell 1
  have q2 : w1.cell? ⟨w.heap.size + 1, 0, none⟩ = some (.int .u64 c) := k1'.cell 0
  have q3 : w1.cell? ⟨w.heap.size + 1, 1, none⟩ = some (.int .u64 d) := k1'.cell 1
  have q4 : w1.cell? ⟨w.heap.size + 1 + 1, 0, none⟩ = some (.int .u64 0) := k2'.cell 0
  have q5 : w1.cell? ⟨w.heap.size + 1 + 1, 1, none⟩ = some (.int .u64 0) := k2'.cell 1
  have q6 : w1.cell? ⟨w.heap.size + 1 + 1, 2, none⟩ = some (.int .u64 0) := k2'.cell 2
  have g4 := k2'.frozen 0
  have g5 := k2'.frozen 1
  have g6 := k2'.frozen 2
  have lt1 : w.heap.size + 1 + 1 < w1.heap.size := k2'.lt
  have lt2 : w.heap.size + 1 < w1.heap.size := by omega
  have lt3 : w.heap.size < w1.heap.size := by omega
  have ne0 := World.new_ne w1 _ q0
  have ne1 := World.new_ne w1 _ q2
  have ne2 := World.new_ne w1 _ q4
  have BW := Lib.hid bw
  have K2H := Lib.hid k2'
  clear b1 k0 k1' k2' bw CP
  go_wp2_with fail
  have hfin := (((K2H.out.set_ 0 (.int .u64 n0)).set_ 1 (.int .u64 n1)).set_ 2 (.int .u64 ((c3 : Int) + k2))).alloc (.cells #[.int .u64 v0, .int .u64 v1] 120)
  have hb := (((BW.out.setCell (p := ⟨w.heap.size + 1 + 1, 0, none⟩) (by simp; omega) (.int .u64 n0)).setCell (p := ⟨w.heap.size + 1 + 1, 1, none⟩) (by simp; omega) (.int .u64 n1)).setCell (p := ⟨w.heap.size + 1 + 1, 2, none⟩) (by simp; omega) (.int .u64 ((c3 : Int) + k2))).alloc (by simp; omega) (.cells #[.int .u64 v0, .int .u64 v1] 120)
  refine bodyPost_ret (v := .agg #[.int .u64 n0, .int .u64 n1, .int .u64 ((c3 : Int) + k2)]) (results_cell_row rfl _ _ (w.heap.size + 1 + 1) 122 _ (0, 0) _ rfl hfin Tryd.underlying122 rfl (by kernel_rfl)) rfl ⟨n0, n1, c3 + k2, by simp, HN0.out, HN1.out, HV.out, hb⟩
end Go.Proofs.YtjibbegdieiknaaDoor

namespace Go.Proofs.YtjibbegdieiknaaDoor
open Go.RowKit
set_option linter.unusedVariables false
set_option linter.unusedSimpArgs false

theorem mul_expand (x0 x1 x2 y0 y1 M : Nat) : (x0 + x1 * M + x2 * (M * M)) * (y0 + y1 * M) = x0 * y0 + (x1 * y0 + x0 * y1) * M + (x2 * y0 + x1 * y1) * (M * M) + x2 * y1 * (M * M * M) := by
  simp only [Nat.mul_add, Nat.mul_comm, Nat.mul_left_comm, Nat.add_assoc, Nat.add_comm, Nat.add_left_comm]
/-- The four words of a product of three words and two. -/
theorem words_val (p00 p10 p01 p20 p11 p21 l1 h1 l2 h2 t1 t2 t3 c0 c1 c2 c3 : Nat)
    (a1 : l1 + 18446744073709551616 * c0 = p10 % 18446744073709551616 + p01 % 18446744073709551616) (b1 : h1 = p10 / 18446744073709551616 + p01 / 18446744073709551616 + c0)
    (a2 : l2 + 18446744073709551616 * c3 = p20 % 18446744073709551616 + p11 % 18446744073709551616) (b2 : h2 = p20 / 18446744073709551616 + p11 / 18446744073709551616 + c3)
    (d1 : t1 + 18446744073709551616 * c1 = p00 / 18446744073709551616 + l1) (d2 : t2 + 18446744073709551616 * c2 = h1 + l2 + c1) (d3 : t3 = h2 + p21 + c2) :
    p00 % 18446744073709551616 + t1 * 18446744073709551616 + t2 * 340282366920938463463374607431768211456 + t3 * 6277101735386680763835789423207666416102355444464034512896 = p00 + (p10 + p01) * 18446744073709551616 + (p20 + p11) * 340282366920938463463374607431768211456 + p21 * 6277101735386680763835789423207666416102355444464034512896 := by
  have e0 := Nat.mod_add_div p00 18446744073709551616
  have e1 := Nat.mod_add_div p10 18446744073709551616
  have e2 := Nat.mod_add_div p01 18446744073709551616
  have e3 := Nat.mod_add_div p20 18446744073709551616
  have e4 := Nat.mod_add_div p11 18446744073709551616
  generalize p00 % 18446744073709551616 = r0 at *
  generalize p10 % 18446744073709551616 = r1 at *
  generalize p01 % 18446744073709551616 = r2 at *
  generalize p20 % 18446744073709551616 = r3 at *
  generalize p11 % 18446744073709551616 = r4 at *
  generalize p00 / 18446744073709551616 = s0 at *
  generalize p10 / 18446744073709551616 = s1 at *
  generalize p01 / 18446744073709551616 = s2 at *
  generalize p20 / 18446744073709551616 = s3 at *
  generalize p11 / 18446744073709551616 = s4 at *
  subst b1 b2 d3
  rw [← e0, ← e1, ← e2, ← e3, ← e4]
  omega
/-- Two words, and what they say. -/
theorem two_words (a b v : Nat) (ha : a < 18446744073709551616) (hb : b < 18446744073709551616) (c d : Nat) (h : a + b * 18446744073709551616 + c * 340282366920938463463374607431768211456 + d * 6277101735386680763835789423207666416102355444464034512896 = v) :
    v % 340282366920938463463374607431768211456 = a + b * 18446744073709551616 ∧ v / 340282366920938463463374607431768211456 = c + d * 18446744073709551616 := by omega
theorem t3_lt (t3 x0 x1 x2 y0 y1 v r : Nat) (h0 : x0 < 18446744073709551616) (h1 : x1 < 18446744073709551616) (h2 : x2 ≤ 7) (h3 : y0 < 1152921504606846976) (h4 : y1 < 1152921504606846976)
    (hv : r + t3 * 6277101735386680763835789423207666416102355444464034512896 = (x0 + x1 * 18446744073709551616 + x2 * 340282366920938463463374607431768211456) * (y0 + y1 * 18446744073709551616)) : t3 < 9223372036854775808 := by
  have hx : x0 + x1 * 18446744073709551616 + x2 * 340282366920938463463374607431768211456 ≤ 2722258935367507707706996859454145691647 := by omega
  have hy : y0 + y1 * 18446744073709551616 ≤ 21267647932558653966460912964485513215 := by omega
  have h := Nat.mul_le_mul hx hy
  rw [← hv] at h
  omega

theorem sum3_lt {a b k y0 y1 : Nat} (h1 : a ≤ y0) (h2 : b ≤ y1) (h3 : k ≤ 1) (h4 : y0 < 1152921504606846976) (h5 : y1 < 1152921504606846976) : a + b + k < 18446744073709551616 := by omega
theorem sum5_lt {a b k p c y0 y1 : Nat} (h1 : a ≤ y0) (h2 : b ≤ y1) (h3 : k ≤ 1) (h6 : p ≤ 7 * y1) (h7 : c ≤ 1) (h4 : y0 < 1152921504606846976) (h5 : y1 < 1152921504606846976) : a + b + k + p + c < 18446744073709551616 := by omega
theorem hi_le {x y : Nat} (hx : x < 18446744073709551616) : x * y / 18446744073709551616 ≤ y :=
  Nat.div_le_of_le_mul (Nat.mul_le_mul (Nat.le_of_lt hx) (Nat.le_refl y))
theorem times_val (x0 x1 x2 y0 y1 l00 g00 l10 g10 l01 g01 L1 H1 l20 g20 l11 g11 L2 H2 p21 t1 c1 t2 c2 t3 v : Nat) (h0 : x0 < 18446744073709551616) (h1 : x1 < 18446744073709551616) (h2 : x2 ≤ 7) (h3 : y0 < 1152921504606846976) (h4 : y1 < 1152921504606846976)
    (hv : v = (x0 + x1 * 18446744073709551616 + x2 * 340282366920938463463374607431768211456) * (y0 + y1 * 18446744073709551616))
    (q1 : l00 = x0 * y0 % 18446744073709551616) (q2 : g00 = x0 * y0 / 18446744073709551616) (q3 : l10 = x1 * y0 % 18446744073709551616) (q4 : g10 = x1 * y0 / 18446744073709551616) (q5 : l01 = x0 * y1 % 18446744073709551616) (q6 : g01 = x0 * y1 / 18446744073709551616)
    (q7 : L1 = (l10 + l01) % 18446744073709551616) (q8 : H1 = (g10 + g01 + (l10 + l01) / 18446744073709551616) % 18446744073709551616)
    (r3 : l20 = x2 * y0 % 18446744073709551616) (r4 : g20 = x2 * y0 / 18446744073709551616) (r5 : l11 = x1 * y1 % 18446744073709551616) (r6 : g11 = x1 * y1 / 18446744073709551616)
    (r7 : L2 = (l20 + l11) % 18446744073709551616) (r8 : H2 = (g20 + g11 + (l20 + l11) / 18446744073709551616) % 18446744073709551616) (hp : p21 = x2 * y1)
    (d1 : t1 = (g00 + L1) % 18446744073709551616) (d2 : c1 = (g00 + L1) / 18446744073709551616) (d3 : t2 = (H1 + L2 + c1) % 18446744073709551616) (d4 : c2 = (H1 + L2 + c1) / 18446744073709551616) (d5 : t3 = (H2 + p21 + c2) % 18446744073709551616) :
    t3 < 9223372036854775808 ∧ v % 340282366920938463463374607431768211456 = l00 + t1 * 18446744073709551616 ∧ v / 340282366920938463463374607431768211456 = t2 + t3 * 18446744073709551616 := by
  have hx2 : x2 < 18446744073709551616 := Nat.lt_of_le_of_lt h2 (by decide)
  have u1 : g10 ≤ y0 := q4 ▸ hi_le h1
  have u2 : g01 ≤ y1 := q6 ▸ hi_le h0
  have u3 : g20 ≤ y0 := r4 ▸ hi_le hx2
  have u4 : g11 ≤ y1 := r6 ▸ hi_le h1
  have u5 : p21 ≤ 7 * y1 := hp ▸ Nat.mul_le_mul h2 (Nat.le_refl _)
  have m1 : l10 < 18446744073709551616 := q3 ▸ m64_lt _
  have m2 : l01 < 18446744073709551616 := q5 ▸ m64_lt _
  have m3 : l20 < 18446744073709551616 := r3 ▸ m64_lt _
  have m4 : l11 < 18446744073709551616 := r5 ▸ m64_lt _
  have k1 : (l10 + l01) / 18446744073709551616 ≤ 1 := carry_le0 m1 m2
  have k2 : (l20 + l11) / 18446744073709551616 ≤ 1 := carry_le0 m3 m4
  have eH1 : H1 = g10 + g01 + (l10 + l01) / 18446744073709551616 := by rw [q8]; exact Nat.mod_eq_of_lt (sum3_lt u1 u2 k1 h3 h4)
  have eH2 : H2 = g20 + g11 + (l20 + l11) / 18446744073709551616 := by rw [r8]; exact Nat.mod_eq_of_lt (sum3_lt u3 u4 k2 h3 h4)
  have mH1 : H1 < 18446744073709551616 := q8 ▸ m64_lt _
  have mL2 : L2 < 18446744073709551616 := r7 ▸ m64_lt _
  have mL1 : L1 < 18446744073709551616 := q7 ▸ m64_lt _
  have ml00 : l00 < 18446744073709551616 := q1 ▸ m64_lt _
  have mt1 : t1 < 18446744073709551616 := d1 ▸ m64_lt _
  have mg00 : g00 < 18446744073709551616 := by have : g00 ≤ y0 := q2 ▸ hi_le h0; exact Nat.lt_of_le_of_lt this (Nat.lt_trans h3 (by decide))
  have kc1 : c1 ≤ 1 := d2 ▸ carry_le0 mg00 mL1
  have kc2 : c2 ≤ 1 := d4 ▸ carry_le mH1 mL2 kc1
  have et3 : t3 = H2 + p21 + c2 := by rw [d5]; exact Nat.mod_eq_of_lt (by rw [eH2]; exact sum5_lt u3 u4 k2 u5 kc2 h3 h4)
  have W := words_val (x0 * y0) (x1 * y0) (x0 * y1) (x2 * y0) (x1 * y1) p21 L1 H1 L2 H2 t1 t2 t3 ((l10 + l01) / 18446744073709551616) c1 c2 ((l20 + l11) / 18446744073709551616)
    (by rw [← q3, ← q5, q7]; exact Nat.mod_add_div _ _) (by rw [← q4, ← q6]; exact eH1) (by rw [← r3, ← r5, r7]; exact Nat.mod_add_div _ _) (by rw [← r4, ← r6]; exact eH2)
    (by rw [← q2, d1, d2]; exact Nat.mod_add_div _ _) (by rw [d3, d4]; exact Nat.mod_add_div _ _) et3
  have X := mul_expand x0 x1 x2 y0 y1 18446744073709551616
  rw [show (18446744073709551616 * 18446744073709551616 : Nat) = 340282366920938463463374607431768211456 from rfl, show (340282366920938463463374607431768211456 * 18446744073709551616 : Nat) = 6277101735386680763835789423207666416102355444464034512896 from rfl, ← hv, ← hp, ← W, ← q1] at X
  have ht3 := t3_lt t3 x0 x1 x2 y0 y1 v (l00 + t1 * 18446744073709551616 + t2 * 340282366920938463463374607431768211456) h0 h1 h2 h3 h4 (by rw [← hv]; exact X.symm)
  exact ⟨ht3, two_words l00 t1 v ml00 mt1 t2 t3 X.symm⟩
theorem mod4_word (a b : Nat) : (a + b * 18446744073709551616) % 4 = a % 4 := by omega

/-- Two words, out of 'plus'. -/
theorem h1_lt {a b k : Nat} (ha : a < 1329227995784915872903807060280344576) (hb : b < 1329227995784915872903807060280344576 * 16) (hk : k ≤ 1) : a / 18446744073709551616 + b / 18446744073709551616 + k < 18446744073709551616 := by omega

set_option maxRecDepth 100000 in
set_option maxHeartbeats 1600000 in
theorem times_any (x0 x1 x2 y0 y1 : Nat) (h0 : x0 < 18446744073709551616) (h1 : x1 < 18446744073709551616) (h2 : x2 ≤ 7) (h3 : y0 < 1152921504606846976) (h4 : y1 < 1152921504606846976) (v : Nat) (hv : v = (x0 + x1 * 18446744073709551616 + x2 * 340282366920938463463374607431768211456) * (y0 + y1 * 18446744073709551616)) (w : World) :
    Calls Tryd.prog 88 #[.agg #[.int .u64 x0, .int .u64 x1, .int .u64 x2], .agg #[.int .u64 y0, .int .u64 y1]] w fun e w' => ∃ n0 n1 n2 : Nat,
      e = .returned (.agg #[.int .u64 n0, .int .u64 n1, .int .u64 n2]) ∧ n0 < 18446744073709551616 ∧ n1 < 18446744073709551616 ∧
      n0 + n1 * 18446744073709551616 + n2 * 340282366920938463463374607431768211456 = v % 340282366920938463463374607431768211456 + 5 * (v / 340282366920938463463374607431768211456 / 4) + v / 340282366920938463463374607431768211456 % 4 * 340282366920938463463374607431768211456 ∧ Below w.heap.size w w' := by
  have P00 := Lib.hid (fun W => product_any x0 y0 h0 (by omega) W)
  have P10 := Lib.hid (fun W => product_any x1 y0 h1 (by omega) W)
  have P01 := Lib.hid (fun W => product_any x0 y1 h0 (by omega) W)
  have P20 := Lib.hid (fun W => product_any x2 y0 (by omega) (by omega) W)
  have P11 := Lib.hid (fun W => product_any x1 y1 h1 (by omega) W)
  go_enter Tryd.func88, Tryd.ntmps88
  go_wp2_with fail
  refine (P00.out _).mono ?_
  rintro e w1 ⟨rfl, b1⟩
  have bw : Below w.heap.size w w1 := ((((Below.refl _ _).alloc (Nat.le_refl _) _).alloc (by simp) _).alloc (by simp; omega) _).trans (b1.mono (by simp; omega))
  have k0 : Blk w1 w.heap.size 122 #[.int .u64 x0, .int .u64 x1, .int .u64 x2] := (((Blk.new w _ _).alloc _).alloc _).below b1 (by simp <;> omega)
  have k1 : Blk w1 (w.heap.size + 1) 120 #[.int .u64 y0, .int .u64 y1] := ((blk_second w _ _ _).alloc _).below b1 (by simp <;> omega)
  have k2 : Blk w1 (w.heap.size + 1 + 1) 122 #[.int .u64 0, .int .u64 0, .int .u64 0] := by
    have h := blk_second (w.alloc (.cells #[.int .u64 x0, .int .u64 x1, .int .u64 x2] 122)) (.cells #[.int .u64 y0, .int .u64 y1] 120) 122 #[.int .u64 0, .int .u64 0, .int .u64 0]
    rw [show (w.alloc (.cells #[.int .u64 x0, .int .u64 x1, .int .u64 x2] 122)).heap.size = w.heap.size + 1 by simp] at h
    exact h.below b1 (by simp <;> omega)
  obtain ⟨l00, hl00⟩ : ∃ q, q = x0 * y0 % 18446744073709551616 := ⟨_, rfl⟩
  obtain ⟨g00, hg00⟩ : ∃ q, q = x0 * y0 / 18446744073709551616 := ⟨_, rfl⟩
  rw [← hl00, ← hg00]
  have HL00 := Lib.hid hl00
  have HG00 := Lib.hid hg00
  have K0 := Lib.hid k0
  have K1 := Lib.hid k1
  have K2 := Lib.hid k2
  have BW := Lib.hid bw
  have lt : w.heap.size + 1 + 1 < w1.heap.size := k2.lt
  clear b1 bw k0 k1 k2 hl00 hg00
  go_wp2_with fail
  have k0 := K0.out.alloc (.cells #[.int .u64 l00, .int .u64 g00] 120)
  have k1 := K1.out.alloc (.cells #[.int .u64 l00, .int .u64 g00] 120)
  have k2 := K2.out.alloc (.cells #[.int .u64 l00, .int .u64 g00] 120)
  have k3 : Blk (w1.alloc (.cells #[.int .u64 l00, .int .u64 g00] 120)) w1.heap.size 120 #[.int .u64 l00, .int .u64 g00] := Blk.new w1 _ _
  have bw := BW.out.alloc BW.out.size (.cells #[.int .u64 l00, .int .u64 g00] 120)
  obtain ⟨g3, hg3⟩ : ∃ g3, g3 = w1.heap.size := ⟨_, rfl⟩
  rw [← hg3] at k3 lt ⊢
  show Code.wp _ _ _ _ (w1.alloc (.cells #[.int .u64 l00, .int .u64 g00] 120))
  generalize w1.alloc (.cells #[.int .u64 l00, .int .u64 g00] 120) = w2 at k0 k1 k2 k3 bw ⊢
  clear K0 K1 K2 BW hg3
  have K0r := Lib.hid k0
  have K1r := Lib.hid k1
  have K2r := Lib.hid k2
  have K3r := Lib.hid k3
  have BWr := Lib.hid bw
  clear k0 k1 k2 k3 bw P00
  obtain ⟨l10, hl10⟩ : ∃ q, q = x1 * y0 % 18446744073709551616 := ⟨_, rfl⟩
  obtain ⟨g10, hg10⟩ : ∃ q, q = x1 * y0 / 18446744073709551616 := ⟨_, rfl⟩
  obtain ⟨l01, hl01⟩ : ∃ q, q = x0 * y1 % 18446744073709551616 := ⟨_, rfl⟩
  obtain ⟨g01, hg01⟩ : ∃ q, q = x0 * y1 / 18446744073709551616 := ⟨_, rfl⟩
  rw [← hl10, ← hg10] at P10
  rw [← hl01, ← hg01] at P01
  have Qr := Lib.hid (fun W => plus_any l10 g10 l01 g01 (hl10 ▸ m64_lt _) (hl01 ▸ m64_lt _) W)
  obtain ⟨L1, hL1⟩ : ∃ q, q = (l10 + l01) % 18446744073709551616 := ⟨_, rfl⟩
  obtain ⟨H1, hH1⟩ : ∃ q, q = (g10 + g01 + (l10 + l01) / 18446744073709551616) % 18446744073709551616 := ⟨_, rfl⟩
  rw [← hL1, ← hH1] at Qr
  have HPr := Lib.hid (And.intro hl10 (And.intro hg10 (And.intro hl01 (And.intro hg01 (And.intro hL1 hH1)))))
  clear hl10 hg10 hl01 hg01 hL1 hH1
  have KAr := Lib.hid (show ∀ W, Below w2.heap.size w2 W → W.cell? ⟨w.heap.size, 0, none⟩ = some (.int .u64 x0) ∧ W.cell? ⟨w.heap.size, 1, none⟩ = some (.int .u64 x1) ∧ W.cell? ⟨w.heap.size + 1, 0, none⟩ = some (.int .u64 y0) ∧ W.cell? ⟨w.heap.size + 1, 1, none⟩ = some (.int .u64 y1) from fun W h => ⟨(K0r.out.below h K0r.out.lt).cell 0, (K0r.out.below h K0r.out.lt).cell 1, (K1r.out.below h K1r.out.lt).cell 0, (K1r.out.below h K1r.out.lt).cell 1⟩)
  have bIr : Below w2.heap.size w2 w2.drew := ⟨rfl, rfl, rfl, Nat.le_refl _, fun _ _ => rfl⟩
  have HBIr := Lib.hid bIr
  have lIr : w2.drew.heap.size = w2.heap.size := rfl
  clear bIr
  go_upto_region 2 with (fail)
  go_cut [6] (fun p wx => ∃ gN, p = .pointer (some ⟨gN, 0, none⟩) ∧ w2.heap.size ≤ gN ∧ Blk wx gN 120 #[.int .u64 L1, .int .u64 H1] ∧ Below w2.heap.size w2 wx)
  case first =>
   go_region_held3 (fun w' => w'.cell? ⟨w.heap.size, 0, none⟩ = some (.int .u64 x0) ∧ w'.cell? ⟨w.heap.size, 1, none⟩ = some (.int .u64 x1) ∧ w'.cell? ⟨w.heap.size + 1, 0, none⟩ = some (.int .u64 y0) ∧ w'.cell? ⟨w.heap.size + 1, 1, none⟩ = some (.int .u64 y1)) (first
    | exact KAr.out _ Er
    | exact KAr.out _ Dr
    | exact KAr.out _ Br
    | exact KAr.out _ HBIr.out
    | exact KAr.out _ (Below.setCell (Below.setCell Er Dr.size _) Dr.size _)
    | exact KAr.out _ (Below.setCell (Below.setCell Er Br.size _) Br.size _)
    | exact KAr.out _ (Below.setCell (Below.setCell Er (Nat.le_refl _) _) (Nat.le_refl _) _)
    | exact KAr.out _ (Below.alloc HBIr.out (Nat.le_refl _) _)
    | exact KAr.out _ (Below.alloc Br Br.size _)
    | exact KAr.out _ (Below.alloc Dr Dr.size _)
    | exact KAr.out _ (Below.alloc Er Er.size _)
    | (go_keep; done)) (first
    | (go_at_call 98
       (with_reducible refine (P10.out _).mono ?_)
       rintro e war ⟨rfl, b3⟩
       have Br : Below w2.heap.size w2 war := by first | exact HBIr.out.trans (b3.mono (Nat.le_refl _)) | exact (HBIr.out.alloc (Nat.le_refl _) _).trans (b3.mono (by simp))
       try (have n3 : Blk war w2.heap.size 120 #[.int .u64 0, .int .u64 0] := Blk.below (Blk.new w2.drew 120 #[.int .u64 0, .int .u64 0]) b3 (by simp))
       try (have N3 := Lib.hid n3; have v30 := n3.cell 0; have v31 := n3.cell 1; have f30 := n3.frozen 0; have f31 := n3.frozen 1))
    | (go_at_call 98
       (with_reducible refine (P01.out _).mono ?_)
       rintro e wbr ⟨rfl, b4⟩
       have Dr : Below w2.heap.size w2 wbr := by first | exact Br.trans (b4.mono Br.size) | exact (Br.alloc Br.size _).trans (b4.mono (by have := Br.size; simp; omega))
       try (have n4 : Blk wbr w2.heap.size 120 #[.int .u64 0, .int .u64 0] := Blk.below n3 b4 n3.lt)
       try (have n4 : Blk wbr war.heap.size 120 #[.int .u64 0, .int .u64 0] := Blk.below (Blk.new war 120 #[.int .u64 0, .int .u64 0]) b4 (by simp)))
    | (go_at_call 78
       (with_reducible refine (Qr.out _).mono ?_)
       rintro e wcr ⟨rfl, b5⟩
       have Er : Below w2.heap.size w2 wcr := by first | exact Dr.trans (b5.mono Dr.size) | exact (Dr.alloc Dr.size _).trans (b5.mono (by have := Dr.size; simp; omega))
       try (have n5 : Blk wcr _ 120 #[.int .u64 0, .int .u64 0] := Blk.below n4 b5 n4.lt)
       try (have n5 : Blk wcr wbr.heap.size 120 #[.int .u64 0, .int .u64 0] := Blk.below (Blk.new wbr 120 #[.int .u64 0, .int .u64 0]) b5 (by simp))
       try (have v50 := n5.cell 0; have v51 := n5.cell 1; have f50 := n5.frozen 0; have f51 := n5.frozen 1)))
   all_goals
     go_wp2_with fail
     go_meet
     first
       | exact ⟨_, rfl, Er.size, Blk.new wcr _ _, Er.alloc Er.size _⟩
       | exact ⟨_, rfl, Dr.size, (n5.set_ 0 _).set_ 1 _, Below.setCell (Below.setCell Er Dr.size _) Dr.size _⟩
       | exact ⟨_, rfl, Br.size, (n5.set_ 0 _).set_ 1 _, Below.setCell (Below.setCell Er Br.size _) Br.size _⟩
       | exact ⟨_, rfl, Nat.le_refl _, (n5.set_ 0 _).set_ 1 _, Below.setCell (Below.setCell Er (Nat.le_refl _) _) (Nat.le_refl _) _⟩
  case rest =>
    obtain ⟨gN, rfl, hgN, bN, bW⟩ := hcut
    rename World => w4
    have hs2 := BWr.out.size
    have K0s := Lib.hid (K0r.out.below bW K0r.out.lt)
    have K1s := Lib.hid (K1r.out.below bW K1r.out.lt)
    have K2s := Lib.hid (K2r.out.below bW K2r.out.lt)
    have K3s := Lib.hid (K3r.out.below bW K3r.out.lt)
    have K4s := Lib.hid bN
    have BWs := Lib.hid (BWr.out.trans (bW.mono hs2))
    have lt4 : g3 < w4.heap.size := K3s.out.lt
    have lt5 : gN < w4.heap.size := K4s.out.lt
    clear bN bW KAr HBIr K0r K1r K2r K3r BWr Qr
    go_wp2_with fail
    obtain ⟨l20, hl20⟩ : ∃ q, q = x2 * y0 % 18446744073709551616 := ⟨_, rfl⟩
    obtain ⟨g20, hg20⟩ : ∃ q, q = x2 * y0 / 18446744073709551616 := ⟨_, rfl⟩
    obtain ⟨l11, hl11⟩ : ∃ q, q = x1 * y1 % 18446744073709551616 := ⟨_, rfl⟩
    obtain ⟨g11, hg11⟩ : ∃ q, q = x1 * y1 / 18446744073709551616 := ⟨_, rfl⟩
    rw [← hl20, ← hg20] at P20
    rw [← hl11, ← hg11] at P11
    have Qs := Lib.hid (fun W => plus_any l20 g20 l11 g11 (hl20 ▸ m64_lt _) (hl11 ▸ m64_lt _) W)
    obtain ⟨L2, hL2⟩ : ∃ q, q = (l20 + l11) % 18446744073709551616 := ⟨_, rfl⟩
    obtain ⟨H2, hH2⟩ : ∃ q, q = (g20 + g11 + (l20 + l11) / 18446744073709551616) % 18446744073709551616 := ⟨_, rfl⟩
    rw [← hL2, ← hH2] at Qs
    have HPs := Lib.hid (And.intro hl20 (And.intro hg20 (And.intro hl11 (And.intro hg11 (And.intro hL2 hH2)))))
    clear hl20 hg20 hl11 hg11 hL2 hH2
    have KAs := Lib.hid (show ∀ W, Below w4.heap.size w4 W → W.cell? ⟨w.heap.size, 2, none⟩ = some (.int .u64 x2) ∧ W.cell? ⟨w.heap.size, 1, none⟩ = some (.int .u64 x1) ∧ W.cell? ⟨w.heap.size + 1, 0, none⟩ = some (.int .u64 y0) ∧ W.cell? ⟨w.heap.size + 1, 1, none⟩ = some (.int .u64 y1) from fun W h => ⟨(K0s.out.below h K0s.out.lt).cell 2, (K0s.out.below h K0s.out.lt).cell 1, (K1s.out.below h K1s.out.lt).cell 0, (K1s.out.below h K1s.out.lt).cell 1⟩)
    have bIs : Below w4.heap.size w4 w4.drew := ⟨rfl, rfl, rfl, Nat.le_refl _, fun _ _ => rfl⟩
    have HBIs := Lib.hid bIs
    have lIs : w4.drew.heap.size = w4.heap.size := rfl
    clear bIs
    go_upto_region 3 with (fail)
    go_cut [7] (fun p wx => ∃ gN, p = .pointer (some ⟨gN, 0, none⟩) ∧ w4.heap.size ≤ gN ∧ Blk wx gN 120 #[.int .u64 L2, .int .u64 H2] ∧ Below w4.heap.size w4 wx)
    case first =>
     go_region_held3 (fun w' => w'.cell? ⟨w.heap.size, 2, none⟩ = some (.int .u64 x2) ∧ w'.cell? ⟨w.heap.size, 1, none⟩ = some (.int .u64 x1) ∧ w'.cell? ⟨w.heap.size + 1, 0, none⟩ = some (.int .u64 y0) ∧ w'.cell? ⟨w.heap.size + 1, 1, none⟩ = some (.int .u64 y1)) (first
      | exact KAs.out _ Es
      | exact KAs.out _ Ds
      | exact KAs.out _ Bs
      | exact KAs.out _ HBIs.out
      | exact KAs.out _ (Below.setCell (Below.setCell Es Ds.size _) Ds.size _)
      | exact KAs.out _ (Below.setCell (Below.setCell Es Bs.size _) Bs.size _)
      | exact KAs.out _ (Below.setCell (Below.setCell Es (Nat.le_refl _) _) (Nat.le_refl _) _)
      | exact KAs.out _ (Below.alloc HBIs.out (Nat.le_refl _) _)
      | exact KAs.out _ (Below.alloc Bs Bs.size _)
      | exact KAs.out _ (Below.alloc Ds Ds.size _)
      | exact KAs.out _ (Below.alloc Es Es.size _)
      | (go_keep; done)) (first
      | (go_at_call 98
         (with_reducible refine (P20.out _).mono ?_)
         rintro e was ⟨rfl, b3⟩
         have Bs : Below w4.heap.size w4 was := by first | exact HBIs.out.trans (b3.mono (Nat.le_refl _)) | exact (HBIs.out.alloc (Nat.le_refl _) _).trans (b3.mono (by simp))
         try (have n3 : Blk was w4.heap.size 120 #[.int .u64 0, .int .u64 0] := Blk.below (Blk.new w4.drew 120 #[.int .u64 0, .int .u64 0]) b3 (by simp))
         try (have N3 := Lib.hid n3; have v30 := n3.cell 0; have v31 := n3.cell 1; have f30 := n3.frozen 0; have f31 := n3.frozen 1))
      | (go_at_call 98
         (with_reducible refine (P11.out _).mono ?_)
         rintro e wbs ⟨rfl, b4⟩
         have Ds : Below w4.heap.size w4 wbs := by first | exact Bs.trans (b4.mono Bs.size) | exact (Bs.alloc Bs.size _).trans (b4.mono (by have := Bs.size; simp; omega))
         try (have n4 : Blk wbs w4.heap.size 120 #[.int .u64 0, .int .u64 0] := Blk.below n3 b4 n3.lt)
         try (have n4 : Blk wbs was.heap.size 120 #[.int .u64 0, .int .u64 0] := Blk.below (Blk.new was 120 #[.int .u64 0, .int .u64 0]) b4 (by simp)))
      | (go_at_call 78
         (with_reducible refine (Qs.out _).mono ?_)
         rintro e wcs ⟨rfl, b5⟩
         have Es : Below w4.heap.size w4 wcs := by first | exact Ds.trans (b5.mono Ds.size) | exact (Ds.alloc Ds.size _).trans (b5.mono (by have := Ds.size; simp; omega))
         try (have n5 : Blk wcs _ 120 #[.int .u64 0, .int .u64 0] := Blk.below n4 b5 n4.lt)
         try (have n5 : Blk wcs wbs.heap.size 120 #[.int .u64 0, .int .u64 0] := Blk.below (Blk.new wbs 120 #[.int .u64 0, .int .u64 0]) b5 (by simp))
         try (have v50 := n5.cell 0; have v51 := n5.cell 1; have f50 := n5.frozen 0; have f51 := n5.frozen 1)))
     all_goals
       go_wp2_with fail
       go_meet
       first
         | exact ⟨_, rfl, Es.size, Blk.new wcs _ _, Es.alloc Es.size _⟩
         | exact ⟨_, rfl, Ds.size, (n5.set_ 0 _).set_ 1 _, Below.setCell (Below.setCell Es Ds.size _) Ds.size _⟩
         | exact ⟨_, rfl, Bs.size, (n5.set_ 0 _).set_ 1 _, Below.setCell (Below.setCell Es Bs.size _) Bs.size _⟩
         | exact ⟨_, rfl, Nat.le_refl _, (n5.set_ 0 _).set_ 1 _, Below.setCell (Below.setCell Es (Nat.le_refl _) _) (Nat.le_refl _) _⟩
    case rest =>
      obtain ⟨gP, rfl, hgP, bP, bW⟩ := hcut
      rename World => w6
      have k0 := K0s.out.below bW K0s.out.lt
      have k1 := K1s.out.below bW K1s.out.lt
      have k2 := K2s.out.below bW K2s.out.lt
      have k3 := K3s.out.below bW K3s.out.lt
      have k4 := K4s.out.below bW K4s.out.lt
      have bwz := BWs.out.trans (bW.mono BWs.out.size)
      obtain ⟨p21, hp21⟩ : ∃ q, q = x2 * y1 := ⟨_, rfl⟩
      have hp21b : p21 < 18446744073709551616 := by
        have h := Nat.mul_le_mul h2 (Nat.le_of_lt h4)
        rw [← hp21] at h
        exact Nat.lt_of_le_of_lt h (by decide)
      have ep : (x2 : Int) * (y1 : Int) = (p21 : Int) := by rw [hp21]; simp
      obtain ⟨t1, d1⟩ : ∃ q, q = (g00 + L1) % 18446744073709551616 := ⟨_, rfl⟩
      obtain ⟨c1, d2⟩ : ∃ q, q = (g00 + L1) / 18446744073709551616 := ⟨_, rfl⟩
      obtain ⟨t2, d3⟩ : ∃ q, q = (H1 + L2 + c1) % 18446744073709551616 := ⟨_, rfl⟩
      obtain ⟨c2, d4⟩ : ∃ q, q = (H1 + L2 + c1) / 18446744073709551616 := ⟨_, rfl⟩
      obtain ⟨t3, d5⟩ : ∃ q, q = (H2 + p21 + c2) % 18446744073709551616 := ⟨_, rfl⟩
      obtain ⟨c3, d6⟩ : ∃ q, q = (H2 + p21 + c2) / 18446744073709551616 := ⟨_, rfl⟩
      obtain ⟨e10, e11, e12, e13, eL1, eH1⟩ := HPr.out
      obtain ⟨e20, e21, e22, e23, eL2, eH2⟩ := HPs.out
      have mL1 : L1 < 18446744073709551616 := eL1 ▸ m64_lt _
      have mH1 : H1 < 18446744073709551616 := eH1 ▸ m64_lt _
      have mL2 : L2 < 18446744073709551616 := eL2 ▸ m64_lt _
      have mg00 : g00 < 18446744073709551616 := by
        have h : g00 ≤ y0 := HG00.out ▸ hi_le h0
        exact Nat.lt_of_le_of_lt h (Nat.lt_trans h3 (by decide))
      have kc1 : c1 ≤ 1 := d2 ▸ carry_le0 mg00 mL1
      have kc2 : c2 ≤ 1 := d4 ▸ carry_le mH1 mL2 kc1
      have ra := add64_run0 g00 L1
      have rb := add64_run H1 L2 c1 kc1
      have rc := add64_run H2 p21 c2 kc2
      rw [← d1, ← d2] at ra
      rw [← d3, ← d4] at rb
      rw [← d5, ← d6] at rc
      obtain ⟨ht3, hv1, hv2⟩ := times_val x0 x1 x2 y0 y1 l00 g00 l10 g10 l01 g01 L1 H1 l20 g20 l11 g11 L2 H2 p21 t1 c1 t2 c2 t3 v h0 h1 h2 h3 h4 hv HL00.out HG00.out e10 e11 e12 e13 eL1 eH1 e20 e21 e22 e23 eL2 eH2 hp21 d1 d2 d3 d4 d5
      have CF := Lib.hid (fun W => fold_any l00 t1 t2 t3 (HL00.out ▸ m64_lt _) (d1 ▸ m64_lt _) (d3 ▸ m64_lt _) ht3 W)
      have V1 := Lib.hid hv1
      have V2 := Lib.hid hv2
      have q0 : w6.cell? ⟨w.heap.size, 2, none⟩ = some (.int .u64 x2) := k0.cell 2
      have q1 : w6.cell? ⟨w.heap.size + 1, 1, none⟩ = some (.int .u64 y1) := k1.cell 1
      have q2 : w6.cell? ⟨g3, 0, none⟩ = some (.int .u64 l00) := k3.cell 0
      have q3 : w6.cell? ⟨g3, 1, none⟩ = some (.int .u64 g00) := k3.cell 1
      have q4 : w6.cell? ⟨gN, 0, none⟩ = some (.int .u64 L1) := k4.cell 0
      have q5 : w6.cell? ⟨gN, 1, none⟩ = some (.int .u64 H1) := k4.cell 1
      have q6 : w6.cell? ⟨gP, 0, none⟩ = some (.int .u64 L2) := bP.cell 0
      have q7 : w6.cell? ⟨gP, 1, none⟩ = some (.int .u64 H2) := bP.cell 1
      have K2z := Lib.hid k2
      have BZ := Lib.hid bwz
      clear k0 k1 k2 k3 k4 bwz bW bP hp21 d1 d2 d3 d4 d5 d6 e10 e11 e12 e13 eL1 eH1 e20 e21 e22 e23 eL2 eH2 mL1 mH1 mL2 mg00 ht3 hv1 hv2 hv kc1 kc2 HPr HPs HL00 HG00 K0s K1s K2s K3s K4s BWs KAs HBIs Qs P20 P11
      go_wp2_with fail
      refine (CF.out _).mono ?_
      rintro e w7 ⟨n0, n1, n2, rfl, hn0, hn1, hval, b7⟩
      rw [← V1.out, ← mod4_word t2 t3, ← V2.out] at hval
      have HVAL := Lib.hid hval
      have k2 := K2z.out.below b7 K2z.out.lt
      have r4 : w7.cell? ⟨w.heap.size + 1 + 1, 0, none⟩ = some (.int .u64 0) := k2.cell 0
      have r5 : w7.cell? ⟨w.heap.size + 1 + 1, 1, none⟩ = some (.int .u64 0) := k2.cell 1
      have r6 : w7.cell? ⟨w.heap.size + 1 + 1, 2, none⟩ = some (.int .u64 0) := k2.cell 2
      have g4 := k2.frozen 0
      have g5 := k2.frozen 1
      have g6 := k2.frozen 2
      have K2y := Lib.hid k2
      have BY := Lib.hid (BZ.out.trans (b7.mono BZ.out.size))
      have HN := Lib.hid (And.intro hn0 hn1)
      clear hval k2 b7 hn0 hn1
      go_wp2_with fail
      have hfin := ((K2y.out.set_ 0 (.int .u64 n0)).set_ 1 (.int .u64 n1)).set_ 2 (.int .u64 n2)
      have hb := ((BY.out.setCell (p := ⟨w.heap.size + 1 + 1, 0, none⟩) (by simp; omega) (.int .u64 n0)).setCell (p := ⟨w.heap.size + 1 + 1, 1, none⟩) (by simp; omega) (.int .u64 n1)).setCell (p := ⟨w.heap.size + 1 + 1, 2, none⟩) (by simp; omega) (.int .u64 n2)
      refine bodyPost_ret (v := .agg #[.int .u64 n0, .int .u64 n1, .int .u64 n2]) (results_cell_row rfl _ _ (w.heap.size + 1 + 1) 122 _ (0, 0) _ rfl hfin Tryd.underlying122 rfl (by kernel_rfl)) rfl ⟨n0, n1, n2, rfl, HN.out.1, HN.out.2, HVAL.out, hb⟩
end Go.Proofs.YtjibbegdieiknaaDoor

namespace Go.Proofs.YtjibbegdieiknaaDoor
open Go.RowKit
set_option linter.unusedVariables false
set_option linter.unusedSimpArgs false

theorem xor_pick (x y : Nat) : x ^^^ (x ^^^ y) = y := by
  rw [← Nat.xor_assoc, Nat.xor_self, Nat.zero_xor]
theorem and_all64 (x : Nat) (h : x < 18446744073709551616) : x &&& 18446744073709551615 = x := by
  have := Nat.and_two_pow_sub_one_eq_mod x 64
  rw [show (2 : Nat) ^ 64 - 1 = 18446744073709551615 from by decide, show (2 : Nat) ^ 64 = 18446744073709551616 from by decide, Nat.mod_eq_of_lt h] at this
  exact this
/-- What is left of a number below 2p, p = 2^130 - 5, in its lowest 128 bits. -/
theorem reduce_val (x0 x1 x2 lo hi c0 c1 : Nat) (h0 : x0 < 18446744073709551616) (h1 : x1 < 18446744073709551616) (v : Nat) (hv : v = x0 + x1 * 18446744073709551616 + x2 * 340282366920938463463374607431768211456)
    (hlt : v < 2722258935367507707706996859454145691638) (e0 : lo + 18446744073709551616 * c0 = x0 + 5) (e1 : hi + 18446744073709551616 * c1 = x1 + c0) (l0 : lo < 18446744073709551616) (l1 : hi < 18446744073709551616) :
    x2 + c1 ≤ 7 ∧ ((x2 + c1) / 4 = 0 → v % 1361129467683753853853498429727072845819 % 340282366920938463463374607431768211456 = x0 + x1 * 18446744073709551616)
      ∧ ((x2 + c1) / 4 = 1 → v % 1361129467683753853853498429727072845819 % 340282366920938463463374607431768211456 = lo + hi * 18446744073709551616) := by
  have hs : lo + hi * 18446744073709551616 + (x2 + c1) * 340282366920938463463374607431768211456 = v + 5 := by omega
  refine ⟨by omega, fun h => ?_, fun h => ?_⟩
  · have : v < 1361129467683753853853498429727072845819 := by omega
    rw [Nat.mod_eq_of_lt this]
    omega
  · have h2 : v = 1361129467683753853853498429727072845819 + (v - 1361129467683753853853498429727072845819) := by omega
    have h3 : v % 1361129467683753853853498429727072845819 = v - 1361129467683753853853498429727072845819 := by omega
    rw [h3]
    omega

theorem u64_pick0 (x y : Nat) (hx : x < 18446744073709551616) (hy : y < 18446744073709551616) : bits .xor .u64 (x : Int) (bits .and .u64 (bits .xor .u64 (x : Int) (y : Int)) 0) = (x : Int) := by
  have hz : x ^^^ y < 18446744073709551616 := Nat.xor_lt_two_pow (n := 64) hx hy
  rw [u64_xor_nat x y hx hy, show (0 : Int) = ((0 : Nat) : Int) from rfl, u64_and_nat _ 0 hz (by decide), Nat.and_zero, u64_xor_nat x 0 hx (by decide), Nat.xor_zero]
theorem u64_pick1 (x y : Nat) (hx : x < 18446744073709551616) (hy : y < 18446744073709551616) : bits .xor .u64 (x : Int) (bits .and .u64 (bits .xor .u64 (x : Int) (y : Int)) (IntKind.u64.wrap (-1))) = (y : Int) := by
  have hz : x ^^^ y < 18446744073709551616 := Nat.xor_lt_two_pow (n := 64) hx hy
  rw [u64_xor_nat x y hx hy, show IntKind.u64.wrap (-1) = ((18446744073709551615 : Nat) : Int) from by decide, u64_and_nat _ 18446744073709551615 hz (by decide), and_all64 _ hz, u64_xor_nat x (x ^^^ y) hx hz, xor_pick]

set_option maxHeartbeats 800000 in
theorem reduce_any (x0 x1 x2 : Nat) (h0 : x0 < 18446744073709551616) (h1 : x1 < 18446744073709551616) (v : Nat) (hv : v = x0 + x1 * 18446744073709551616 + x2 * 340282366920938463463374607431768211456)
    (hlt : v < 2722258935367507707706996859454145691638) (w : World) :
    Calls Tryd.prog 77 #[.agg #[.int .u64 x0, .int .u64 x1, .int .u64 x2]] w fun e w' => ∃ r0 r1 : Nat,
      e = .returned (.agg #[.int .u64 r0, .int .u64 r1]) ∧ r0 < 18446744073709551616 ∧ r1 < 18446744073709551616 ∧
      r0 + r1 * 18446744073709551616 = v % 1361129467683753853853498429727072845819 % 340282366920938463463374607431768211456 ∧ Below w.heap.size w w' := by
  obtain ⟨lo, hlo⟩ : ∃ q, q = (x0 + 5) % 18446744073709551616 := ⟨_, rfl⟩
  obtain ⟨c0, hc0⟩ : ∃ q, q = (x0 + 5) / 18446744073709551616 := ⟨_, rfl⟩
  have kc0 : c0 ≤ 1 := by rw [hc0]; exact carry_le0 h0 (by decide)
  obtain ⟨hi, hhi⟩ : ∃ q, q = (x1 + 0 + c0) % 18446744073709551616 := ⟨_, rfl⟩
  obtain ⟨c1, hc1⟩ : ∃ q, q = (x1 + 0 + c0) / 18446744073709551616 := ⟨_, rfl⟩
  have kc1 : c1 ≤ 1 := by rw [hc1]; exact carry_le h1 (by decide) kc0
  have r0 := add64_run0 x0 5
  have r1 := add64_run x1 0 c0 kc0
  rw [← hlo, ← hc0, show ((5 : Nat) : Int) = 5 from rfl] at r0
  rw [← hhi, ← hc1, show ((0 : Nat) : Int) = 0 from rfl] at r1
  have llo : lo < 18446744073709551616 := hlo ▸ m64_lt _
  have lhi : hi < 18446744073709551616 := hhi ▸ m64_lt _
  obtain ⟨a1, a2, a3⟩ := reduce_val x0 x1 x2 lo hi c0 c1 h0 h1 v hv hlt (by rw [hlo, hc0]; exact Nat.mod_add_div _ _) (by rw [hhi, hc1]; exact Nat.mod_add_div (x1 + 0 + c0) _) llo lhi
  have R := Lib.hid (And.intro a2 a3)
  have x2b : x2 ≤ 7 := Nat.le_trans (Nat.le_add_right _ _) a1
  clear hlo hc0 hhi hc1 a2 a3 hv hlt
  obtain ⟨k, hk⟩ : ∃ q, q = (x2 + c1) / 4 := ⟨_, rfl⟩
  rw [← hk] at R
  have ek : ((x2 : Int) + (c1 : Int)) / 4 = (k : Int) := by rw [hk]; omega
  have hk1 : k ≤ 1 := by omega
  clear hk
  rcases (show k = 0 ∨ k = 1 by omega) with rfl | rfl
  · have ha := u64_pick0 x0 lo h0 llo
    have hb := u64_pick0 x1 hi h1 lhi
    go_enter Tryd.func77, Tryd.ntmps77
    go_wp2_with fail
    refine bodyPost_ret (v := .agg #[.int .u64 x0, .int .u64 x1]) (by simp [results, Tryd.results77, go_sem, ha, hb]) rfl ⟨x0, x1, rfl, h0, h1, (R.out.1 (by trivial)).symm, ?_⟩
    exact ((Below.refl _ _).alloc (Nat.le_refl _) _).alloc (by simp) _
  · have ha := u64_pick1 x0 lo h0 llo
    have hb := u64_pick1 x1 hi h1 lhi
    go_enter Tryd.func77, Tryd.ntmps77
    go_wp2_with fail
    refine bodyPost_ret (v := .agg #[.int .u64 lo, .int .u64 hi]) (by simp [results, Tryd.results77, go_sem, ha, hb]) rfl ⟨lo, hi, rfl, llo, lhi, (R.out.2 (by trivial)).symm, ?_⟩
    exact ((Below.refl _ _).alloc (Nat.le_refl _) _).alloc (by simp) _
end Go.Proofs.YtjibbegdieiknaaDoor
