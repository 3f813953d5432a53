/-
  The library's OnesCount64: how many bits are set.
-/
import Derived.Test.YtdafeokjedmnkaaDoorInts
import Derived.Laws.Bits64b
import Derived.Laws.Bits128
namespace Go.Proofs.YtdafeokjedmnkaaDoor
open Go.RowKit
set_option linter.unusedVariables false

/-- So many of the lowest n bits are set. -/
def onesN : Nat → Nat → Nat
  | 0, _ => 0
  | n + 1, x => x % 2 + onesN n (x / 2)
theorem onesN_set : ∀ (n k x : Nat), k < n → x / 2 ^ k % 2 = 0 → onesN n (x + 2 ^ k) = onesN n x + 1
  | 0, _, _, h, _ => by omega
  | n + 1, 0, x, _, hb => by
    simp at hb
    unfold onesN
    have e1 : (x + 2 ^ 0) % 2 = 1 := by simp; omega
    have e2 : (x + 2 ^ 0) / 2 = x / 2 := by simp; omega
    rw [e1, e2, hb]
    omega
  | n + 1, k + 1, x, h, hb => by
    unfold onesN
    have e0 : 2 ^ (k + 1) = 2 * 2 ^ k := by rw [Nat.pow_succ]; omega
    have e1 : (x + 2 ^ (k + 1)) % 2 = x % 2 := by rw [e0]; omega
    have e2 : (x + 2 ^ (k + 1)) / 2 = x / 2 + 2 ^ k := by rw [e0]; omega
    have e3 : x / 2 / 2 ^ k % 2 = 0 := by rw [Nat.div_div_eq_div_mul, ← e0]; exact hb
    rw [e1, e2, onesN_set n k (x / 2) (by omega) e3]
    omega
theorem onesN_le : ∀ (n x : Nat), onesN n x ≤ n
  | 0, _ => Nat.le_refl _
  | n + 1, x => by
    unfold onesN
    have := onesN_le n (x / 2)
    omega
theorem onesN_8 (n x : Nat) : onesN (n + 8) x = onesN 8 (x % 256) + onesN n (x / 256) := by
  simp only [onesN]
  have e : x / 2 / 2 / 2 / 2 / 2 / 2 / 2 / 2 = x / 256 := by omega
  rw [e]
  omega
theorem and_step (a b : Nat) : a &&& b = (a % 256 &&& b % 256) + 256 * (a / 256 &&& b / 256) := by
  have h1 : (a &&& b) % 2 ^ 8 = (a % 2 ^ 8) &&& (b % 2 ^ 8) := Nat.and_mod_two_pow
  have h2 : (a &&& b) / 2 ^ 8 = (a / 2 ^ 8) &&& (b / 2 ^ 8) := Nat.and_div_two_pow
  have h3 := Nat.mod_add_div (a &&& b) (2 ^ 8)
  rw [h1, h2] at h3
  exact h3.symm
/-- Eight bytes, as a number. -/
def by8 (a b c d e f g h : Nat) : Nat := a + 256 * (b + 256 * (c + 256 * (d + 256 * (e + 256 * (f + 256 * (g + 256 * h))))))
theorem and_by8 (a b c d e f g h m : Nat) (ha : a < 256) (hb : b < 256) (hc : c < 256) (hd : d < 256) (he : e < 256) (hf : f < 256) (hg : g < 256) (hh : h < 256) (hm : m < 256) :
    by8 a b c d e f g h &&& by8 m m m m m m m m = by8 (a &&& m) (b &&& m) (c &&& m) (d &&& m) (e &&& m) (f &&& m) (g &&& m) (h &&& m) := by
  have st : ∀ (u v p q : Nat), u < 256 → p < 256 → (u + 256 * v) &&& (p + 256 * q) = (u &&& p) + 256 * (v &&& q) := by
    intro u v p q hu hp
    rw [and_step, show (u + 256 * v) % 256 = u by omega, show (p + 256 * q) % 256 = p by omega, show (u + 256 * v) / 256 = v by omega, show (p + 256 * q) / 256 = q by omega]
  unfold by8
  rw [st _ _ _ _ ha hm, st _ _ _ _ hb hm, st _ _ _ _ hc hm, st _ _ _ _ hd hm, st _ _ _ _ he hm, st _ _ _ _ hf hm, st _ _ _ _ hg hm]
def F1 (b : Nat) : Nat := (b / 2 &&& 85) + (b &&& 85)
def F2 (b : Nat) : Nat := (b / 4 &&& 51) + (b &&& 51)
theorem F1_le : ∀ b, b < 256 → F1 b < 171 := by decide +kernel
theorem F2_le : ∀ b, b < 256 → F2 (F1 b) < 69 ∧ F2 (F1 b) % 16 ≤ 4 := by decide +kernel
theorem F3_is : ∀ b, b < 256 → (F2 (F1 b) / 16 + F2 (F1 b)) % 16 = onesN 8 b := by decide +kernel
theorem half_mask : ∀ u, u < 128 → ∀ t, t < 2 → (u + 128 * t) &&& 85 = u &&& 85 := by decide +kernel
theorem quart_mask : ∀ u, u < 64 → ∀ t, t < 4 → (u + 64 * t) &&& 51 = u &&& 51 := by decide +kernel
theorem mask15 : ∀ u, u < 256 → u &&& 15 = u % 16 := by decide +kernel
theorem by8_lt {a b c d e f g h : Nat} (ha : a < 256) (hb : b < 256) (hc : c < 256) (hd : d < 256) (he : e < 256) (hf : f < 256) (hg : g < 256) (hh : h < 256) : by8 a b c d e f g h < 18446744073709551616 := by
  unfold by8
  omega
theorem by8_half (a b c d e f g h : Nat) : by8 a b c d e f g h / 2 = by8 (a / 2 + 128 * (b % 2)) (b / 2 + 128 * (c % 2)) (c / 2 + 128 * (d % 2)) (d / 2 + 128 * (e % 2)) (e / 2 + 128 * (f % 2)) (f / 2 + 128 * (g % 2)) (g / 2 + 128 * (h % 2)) (h / 2) := by
  unfold by8
  omega
theorem by8_quart (a b c d e f g h : Nat) : by8 a b c d e f g h / 4 = by8 (a / 4 + 64 * (b % 4)) (b / 4 + 64 * (c % 4)) (c / 4 + 64 * (d % 4)) (d / 4 + 64 * (e % 4)) (e / 4 + 64 * (f % 4)) (f / 4 + 64 * (g % 4)) (g / 4 + 64 * (h % 4)) (h / 4) := by
  unfold by8
  omega
theorem by8_16 (a b c d e f g h : Nat) : by8 a b c d e f g h / 16 = by8 (a / 16 + 16 * (b % 16)) (b / 16 + 16 * (c % 16)) (c / 16 + 16 * (d % 16)) (d / 16 + 16 * (e % 16)) (e / 16 + 16 * (f % 16)) (f / 16 + 16 * (g % 16)) (g / 16 + 16 * (h % 16)) (h / 16) := by
  unfold by8
  omega
theorem by8_add (a b c d e f g h a' b' c' d' e' f' g' h' : Nat) : by8 a b c d e f g h + by8 a' b' c' d' e' f' g' h' = by8 (a + a') (b + b') (c + c') (d + d') (e + e') (f + f') (g + g') (h + h') := by
  unfold by8
  omega
theorem m0_is : (6148914691236517205 : Nat) = by8 85 85 85 85 85 85 85 85 := by decide
theorem m1_is : (3689348814741910323 : Nat) = by8 51 51 51 51 51 51 51 51 := by decide
theorem m2_is : (1085102592571150095 : Nat) = by8 15 15 15 15 15 15 15 15 := by decide
/-- The steps of the count, over bytes. -/
theorem swar1 (a b c d e f g h : Nat) (ha : a < 256) (hb : b < 256) (hc : c < 256) (hd : d < 256) (he : e < 256) (hf : f < 256) (hg : g < 256) (hh : h < 256) :
    (by8 a b c d e f g h / 2 &&& 6148914691236517205) + (by8 a b c d e f g h &&& 6148914691236517205) = by8 (F1 a) (F1 b) (F1 c) (F1 d) (F1 e) (F1 f) (F1 g) (F1 h) := by
  rw [by8_half, m0_is, and_by8 _ _ _ _ _ _ _ _ _ (by omega) (by omega) (by omega) (by omega) (by omega) (by omega) (by omega) (by omega) (by omega), and_by8 _ _ _ _ _ _ _ _ _ ha hb hc hd he hf hg hh (by omega),
    half_mask _ (by omega) _ (by omega), half_mask _ (by omega) _ (by omega), half_mask _ (by omega) _ (by omega), half_mask _ (by omega) _ (by omega), half_mask _ (by omega) _ (by omega), half_mask _ (by omega) _ (by omega), half_mask _ (by omega) _ (by omega), by8_add]
  rfl
theorem swar2 (a b c d e f g h : Nat) (ha : a < 256) (hb : b < 256) (hc : c < 256) (hd : d < 256) (he : e < 256) (hf : f < 256) (hg : g < 256) (hh : h < 256) :
    (by8 a b c d e f g h / 4 &&& 3689348814741910323) + (by8 a b c d e f g h &&& 3689348814741910323) = by8 (F2 a) (F2 b) (F2 c) (F2 d) (F2 e) (F2 f) (F2 g) (F2 h) := by
  rw [by8_quart, m1_is, and_by8 _ _ _ _ _ _ _ _ _ (by omega) (by omega) (by omega) (by omega) (by omega) (by omega) (by omega) (by omega) (by omega), and_by8 _ _ _ _ _ _ _ _ _ ha hb hc hd he hf hg hh (by omega),
    quart_mask _ (by omega) _ (by omega), quart_mask _ (by omega) _ (by omega), quart_mask _ (by omega) _ (by omega), quart_mask _ (by omega) _ (by omega), quart_mask _ (by omega) _ (by omega), quart_mask _ (by omega) _ (by omega), quart_mask _ (by omega) _ (by omega), by8_add]
  rfl
theorem low16 (u t : Nat) (h : u + 16 * t < 256) : (u + 16 * t) &&& 15 = u % 16 := by
  rw [mask15 _ h]
  omega
theorem swar3 (a b c d e f g h : Nat) (ha : a < 69 ∧ a % 16 ≤ 4) (hb : b < 69 ∧ b % 16 ≤ 4) (hc : c < 69 ∧ c % 16 ≤ 4) (hd : d < 69 ∧ d % 16 ≤ 4) (he : e < 69 ∧ e % 16 ≤ 4) (hf : f < 69 ∧ f % 16 ≤ 4) (hg : g < 69 ∧ g % 16 ≤ 4) (hh : h < 69 ∧ h % 16 ≤ 4) :
    (by8 a b c d e f g h / 16 + by8 a b c d e f g h) &&& 1085102592571150095 = by8 ((a / 16 + a) % 16) ((b / 16 + b) % 16) ((c / 16 + c) % 16) ((d / 16 + d) % 16) ((e / 16 + e) % 16) ((f / 16 + f) % 16) ((g / 16 + g) % 16) ((h / 16 + h) % 16) := by
  rw [by8_16, by8_add, m2_is, and_by8 _ _ _ _ _ _ _ _ _ (by omega) (by omega) (by omega) (by omega) (by omega) (by omega) (by omega) (by omega) (by omega),
    show a / 16 + 16 * (b % 16) + a = (a / 16 + a) + 16 * (b % 16) by omega, show b / 16 + 16 * (c % 16) + b = (b / 16 + b) + 16 * (c % 16) by omega, show c / 16 + 16 * (d % 16) + c = (c / 16 + c) + 16 * (d % 16) by omega,
    show d / 16 + 16 * (e % 16) + d = (d / 16 + d) + 16 * (e % 16) by omega, show e / 16 + 16 * (f % 16) + e = (e / 16 + e) + 16 * (f % 16) by omega, show f / 16 + 16 * (g % 16) + f = (f / 16 + f) + 16 * (g % 16) by omega,
    show g / 16 + 16 * (h % 16) + g = (g / 16 + g) + 16 * (h % 16) by omega, low16 _ _ (by omega), low16 _ _ (by omega), low16 _ _ (by omega), low16 _ _ (by omega), low16 _ _ (by omega), low16 _ _ (by omega), low16 _ _ (by omega), mask15 _ (by omega)]
theorem swar4 (a b c d e f g h : Nat) (ha : a ≤ 8) (hb : b ≤ 8) (hc : c ≤ 8) (hd : d ≤ 8) (he : e ≤ 8) (hf : f ≤ 8) (hg : g ≤ 8) (hh : h ≤ 8) :
    ∃ s4 s5 s6 : Nat, s4 = by8 a b c d e f g h + by8 a b c d e f g h / 256 ∧ s5 = s4 + s4 / 65536 ∧ s6 = s5 + s5 / 4294967296 ∧ s6 % 128 = a + b + c + d + e + f + g + h ∧ s6 < 9223372036854775808 := by
  have e4 : by8 a b c d e f g h + by8 a b c d e f g h / 256 = by8 (a + b) (b + c) (c + d) (d + e) (e + f) (f + g) (g + h) h := by unfold by8; omega
  have e5 : by8 (a + b) (b + c) (c + d) (d + e) (e + f) (f + g) (g + h) h + by8 (a + b) (b + c) (c + d) (d + e) (e + f) (f + g) (g + h) h / 65536 = by8 (a + b + c + d) (b + c + d + e) (c + d + e + f) (d + e + f + g) (e + f + g + h) (f + g + h) (g + h) h := by unfold by8; omega
  have e6 : by8 (a + b + c + d) (b + c + d + e) (c + d + e + f) (d + e + f + g) (e + f + g + h) (f + g + h) (g + h) h + by8 (a + b + c + d) (b + c + d + e) (c + d + e + f) (d + e + f + g) (e + f + g + h) (f + g + h) (g + h) h / 4294967296 = by8 (a + b + c + d + (e + f + g + h)) (b + c + d + e + (f + g + h)) (c + d + e + f + (g + h)) (d + e + f + g + h) (e + f + g + h) (f + g + h) (g + h) h := by unfold by8; omega
  refine ⟨_, _, _, e4.symm, e5.symm, e6.symm, ?_, ?_⟩
  · unfold by8; omega
  · unfold by8; omega
theorem onesN_by8 (a b c d e f g h : Nat) (ha : a < 256) (hb : b < 256) (hc : c < 256) (hd : d < 256) (he : e < 256) (hf : f < 256) (hg : g < 256) (hh : h < 256) :
    onesN 64 (by8 a b c d e f g h) = onesN 8 a + onesN 8 b + onesN 8 c + onesN 8 d + onesN 8 e + onesN 8 f + onesN 8 g + onesN 8 h := by
  have st : ∀ (n u v : Nat), u < 256 → onesN (n + 8) (u + 256 * v) = onesN 8 u + onesN n v := by
    intro n u v hu
    rw [onesN_8, show (u + 256 * v) % 256 = u by omega, show (u + 256 * v) / 256 = v by omega]
  unfold by8
  rw [st 56 _ _ ha, st 48 _ _ hb, st 40 _ _ hc, st 32 _ _ hd, st 24 _ _ he, st 16 _ _ hf, st 8 _ _ hg]
  omega
theorem bytes_of (x : Nat) (hx : x < 18446744073709551616) : ∃ a b c d e f g h, x = by8 a b c d e f g h ∧ a < 256 ∧ b < 256 ∧ c < 256 ∧ d < 256 ∧ e < 256 ∧ f < 256 ∧ g < 256 ∧ h < 256 :=
  ⟨x % 256, x / 256 % 256, x / 65536 % 256, x / 16777216 % 256, x / 4294967296 % 256, x / 1099511627776 % 256, x / 281474976710656 % 256, x / 72057594037927936, by unfold by8; omega, by omega, by omega, by omega, by omega, by omega, by omega, by omega, by omega⟩
theorem swar_all (x : Nat) (hx : x < 18446744073709551616) : ∃ a b s1 c d s2 s3 s4 s5 s6 : Nat, (x / 2 &&& 6148914691236517205) = a ∧ (x &&& 6148914691236517205) = b ∧ s1 = a + b ∧ (s1 / 4 &&& 3689348814741910323) = c ∧ (s1 &&& 3689348814741910323) = d ∧ s2 = c + d ∧
    ((s2 / 16 + s2) &&& 1085102592571150095) = s3 ∧ s4 = s3 + s3 / 256 ∧ s5 = s4 + s4 / 65536 ∧ s6 = s5 + s5 / 4294967296 ∧ s6 % 128 = onesN 64 x ∧ s1 < 18446744073709551616 ∧ s2 / 16 + s2 < 18446744073709551616 ∧ s6 < 9223372036854775808 := by
  obtain ⟨a, b, c, d, e, f, g, h, rfl, ha, hb, hc, hd, he, hf, hg, hh⟩ := bytes_of x hx
  have w1 := swar1 a b c d e f g h ha hb hc hd he hf hg hh
  have w2 := swar2 (F1 a) (F1 b) (F1 c) (F1 d) (F1 e) (F1 f) (F1 g) (F1 h) (by have := F1_le a ha; omega) (by have := F1_le b hb; omega) (by have := F1_le c hc; omega) (by have := F1_le d hd; omega) (by have := F1_le e he; omega) (by have := F1_le f hf; omega) (by have := F1_le g hg; omega) (by have := F1_le h hh; omega)
  have w3 := swar3 (F2 (F1 a)) (F2 (F1 b)) (F2 (F1 c)) (F2 (F1 d)) (F2 (F1 e)) (F2 (F1 f)) (F2 (F1 g)) (F2 (F1 h)) (F2_le a ha) (F2_le b hb) (F2_le c hc) (F2_le d hd) (F2_le e he) (F2_le f hf) (F2_le g hg) (F2_le h hh)
  rw [F3_is a ha, F3_is b hb, F3_is c hc, F3_is d hd, F3_is e he, F3_is f hf, F3_is g hg, F3_is h hh] at w3
  obtain ⟨s4, s5, s6, e4, e5, e6, hs, hlt⟩ := swar4 (onesN 8 a) (onesN 8 b) (onesN 8 c) (onesN 8 d) (onesN 8 e) (onesN 8 f) (onesN 8 g) (onesN 8 h) (onesN_le 8 a) (onesN_le 8 b) (onesN_le 8 c) (onesN_le 8 d) (onesN_le 8 e) (onesN_le 8 f) (onesN_le 8 g) (onesN_le 8 h)
  refine ⟨_, _, _, _, _, _, _, s4, s5, s6, rfl, rfl, w1.symm, rfl, rfl, w2.symm, w3, e4, e5, e6, ?_, ?_, ?_, hlt⟩
  · rw [hs, onesN_by8 a b c d e f g h ha hb hc hd he hf hg hh]
  · have := F1_le a ha; have := F1_le b hb; have := F1_le c hc; have := F1_le d hd; have := F1_le e he; have := F1_le f hf; have := F1_le g hg; have := F1_le h hh
    exact by8_lt (by omega) (by omega) (by omega) (by omega) (by omega) (by omega) (by omega) (by omega)
  · have := F2_le a ha; have := F2_le b hb; have := F2_le c hc; have := F2_le d hd; have := F2_le e he; have := F2_le f hf; have := F2_le g hg; have := F2_le h hh
    unfold by8
    omega
theorem ones_any (x : Nat) (hx : x < 18446744073709551616) (w : World) : Calls Tryd.prog 35 #[.int .u64 x] w fun r w' => r = .returned (.int .i64 (onesN 64 x : Nat)) ∧ w = w' := by
  obtain ⟨a, b, s1, c, d, s2, s3, s4, s5, s6, h1, h2, h3, h4, h5, h6, h7, h8, h9, h10, h11, l1, l2, l3⟩ := swar_all x hx
  have la : a ≤ s1 ∧ b ≤ s1 := by omega
  have lc : c ≤ s2 ∧ d ≤ s2 := by omega
  have l4 : s4 ≤ s6 ∧ s5 ≤ s6 ∧ s3 ≤ s6 := by omega
  have E1 : bits .and .u64 ((x : Int) / 2) 6148914691236517205 = (a : Int) := by
    have := bits_and_u64_nat (x / 2) 6148914691236517205 (by omega) (by omega)
    rw [h1] at this
    exact this
  have E2 : bits .and .u64 (x : Int) 6148914691236517205 = (b : Int) := by
    have := bits_and_u64_nat x 6148914691236517205 hx (by omega)
    rw [h2] at this
    exact this
  have W1 : IntKind.u64.wrap ((a : Int) + (b : Int)) = (s1 : Int) := by rw [IntWalk.u64_in _ (by omega)]; omega
  have E3 : bits .and .u64 ((s1 : Int) / 4) 3689348814741910323 = (c : Int) := by
    have := bits_and_u64_nat (s1 / 4) 3689348814741910323 (by omega) (by omega)
    rw [h4] at this
    exact this
  have E4 : bits .and .u64 (s1 : Int) 3689348814741910323 = (d : Int) := by
    have := bits_and_u64_nat s1 3689348814741910323 l1 (by omega)
    rw [h5] at this
    exact this
  have W2 : IntKind.u64.wrap ((c : Int) + (d : Int)) = (s2 : Int) := by rw [IntWalk.u64_in _ (by omega)]; omega
  obtain ⟨t, ht⟩ : ∃ t, t = s2 / 16 + s2 := ⟨_, rfl⟩
  rw [← ht] at h7 l2
  have W3 : IntKind.u64.wrap ((s2 : Int) / 16 + (s2 : Int)) = (t : Int) := by rw [IntWalk.u64_in _ (by omega)]; omega
  have E5 : bits .and .u64 (t : Int) 1085102592571150095 = (s3 : Int) := by
    have := bits_and_u64_nat t 1085102592571150095 l2 (by omega)
    rw [h7] at this
    exact this
  have W4 : IntKind.u64.wrap ((s3 : Int) + (s3 : Int) / 256) = (s4 : Int) := by rw [IntWalk.u64_in _ (by omega)]; omega
  have W5 : IntKind.u64.wrap ((s4 : Int) + (s4 : Int) / 65536) = (s5 : Int) := by rw [IntWalk.u64_in _ (by omega)]; omega
  have W6 : IntKind.u64.wrap ((s5 : Int) + (s5 : Int) / 4294967296) = (s6 : Int) := by rw [IntWalk.u64_in _ (by omega)]; omega
  have W7 : IntKind.i64.wrap (s6 : Int) = (s6 : Int) := IntWalk.i64_in _ (by omega)
  obtain ⟨R, hR⟩ : ∃ R : Int, R = ((onesN 64 x : Nat) : Int) := ⟨_, rfl⟩
  have E6 : bits .and .i64 (s6 : Int) 127 = R := by
    rw [i64_and127, hR, ← h11]
    omega
  rw [← hR]
  clear h1 h2 h3 h4 h5 h6 h7 h8 h9 h10 h11 hR ht
  go_enter Tryd.func35, Tryd.ntmps35
  go_wp2
  go_ret
  exact ⟨rfl, rfl⟩
end Go.Proofs.YtdafeokjedmnkaaDoor
