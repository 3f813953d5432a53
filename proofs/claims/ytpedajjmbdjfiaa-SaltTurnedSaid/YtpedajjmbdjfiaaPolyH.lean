/-
  The authenticator as a number: one step by value, modulo p = 2^130 - 5.
-/
import Derived.Test.YtpedajjmbdjfiaaPolyE
namespace Go.Proofs.Ytpedajjmbdjfiaa
open Go.RowKit
set_option linter.unusedVariables false

/-- What 'times' leaves of a product. -/
def foldN (v : Nat) : Nat := v % 340282366920938463463374607431768211456 + 5 * (v / 340282366920938463463374607431768211456 / 4) + v / 340282366920938463463374607431768211456 % 4 * 340282366920938463463374607431768211456
theorem foldN_is (v : Nat) : foldN v + 1361129467683753853853498429727072845819 * (v / 1361129467683753853853498429727072845824) = v := by
  unfold foldN
  have e : v / 340282366920938463463374607431768211456 / 4 = v / 1361129467683753853853498429727072845824 := by rw [Nat.div_div_eq_div_mul]
  rw [e]
  have h1 := Nat.mod_add_div v 340282366920938463463374607431768211456
  have h2 := Nat.mod_add_div (v / 340282366920938463463374607431768211456) 4
  rw [e] at h2
  generalize v / 1361129467683753853853498429727072845824 = q at *
  generalize v / 340282366920938463463374607431768211456 = d at *
  generalize v % 340282366920938463463374607431768211456 = r at *
  generalize d % 4 = m at *
  omega
theorem foldN_mod (v : Nat) : foldN v % 1361129467683753853853498429727072845819 = v % 1361129467683753853853498429727072845819 := by
  have h := foldN_is v
  have : v % 1361129467683753853853498429727072845819 = (foldN v + 1361129467683753853853498429727072845819 * (v / 1361129467683753853853498429727072845824)) % 1361129467683753853853498429727072845819 := by rw [h]
  rw [this, Nat.add_mul_mod_self_left]
theorem foldN_lt (s r : Nat) (hs : s < 4083388403051261561560495289181218537472) (hr : r < 21267647932558653966460912964485513216) : foldN (s * r) < 2041694201525630780780247644590609268736 := by
  have h : s * r ≤ 4083388403051261561560495289181218537472 * 21267647932558653966460912964485513216 := Nat.mul_le_mul (Nat.le_of_lt hs) (Nat.le_of_lt hr)
  have e := foldN_is (s * r)
  generalize s * r = v at *
  omega
/-- A step: what was taken so far stands for acc. -/
theorem foldN_step (S B R acc : Nat) (h : S % 1361129467683753853853498429727072845819 = acc % 1361129467683753853853498429727072845819) :
    foldN ((S + B) * R) % 1361129467683753853853498429727072845819 = ((acc + B) * R) % 1361129467683753853853498429727072845819 := by
  rw [foldN_mod, Nat.mul_mod, Nat.add_mod S, h, ← Nat.add_mod, ← Nat.mul_mod]
/-- The three words of the sum, and what they stand for. -/
structure Au (w : World) (g acc f0 f1 z0 z1 : Nat) : Prop where
  words : ∃ s0 s1 s2 : Nat, Blk w g 76 #[.int .u64 s0, .int .u64 s1, .int .u64 s2, .int .u64 f0, .int .u64 f1, .int .u64 z0, .int .u64 z1] ∧
    s0 < 18446744073709551616 ∧ s1 < 18446744073709551616 ∧ s0 + s1 * 18446744073709551616 + s2 * 340282366920938463463374607431768211456 < 2041694201525630780780247644590609268736 ∧
    (s0 + s1 * 18446744073709551616 + s2 * 340282366920938463463374607431768211456) % 1361129467683753853853498429727072845819 = acc % 1361129467683753853853498429727072845819

/-- 'add' by value: a block b of two words and a bit. -/
theorem add_au (ga acc f0 f1 z0 z1 b0 b1 b2 : Nat) (w : World) (ha : Au w ga acc f0 f1 z0 z1) (hb0 : b0 < 18446744073709551616) (hb1 : b1 < 18446744073709551616) (hb2 : b2 ≤ 1)
    (h3 : f0 < 1152921504606846976) (h4 : f1 < 1152921504606846976) :
    Calls Try.prog 38 #[.pointer (some ⟨ga, 0, none⟩), .agg #[.int .u64 b0, .int .u64 b1, .int .u64 b2]] w fun e w' =>
      e = .returned (.tuple #[]) ∧ Au w' ga ((acc + (b0 + b1 * 18446744073709551616 + b2 * 340282366920938463463374607431768211456)) * (f0 + f1 * 18446744073709551616)) f0 f1 z0 z1 ∧ w.grownBy w' (some ga) := by
  obtain ⟨s0, s1, s2, hb, h0, h1, hv, hm⟩ := ha.words
  have k2 : s2 ≤ 5 := by omega
  refine (add_any ga s0 s1 s2 f0 f1 z0 z1 b0 b1 b2 w hb h0 h1 k2 hb0 hb1 hb2 h3 h4 _ rfl).mono ?_
  rintro e w' ⟨n0, n1, n2, rfl, hn0, hn1, hval, hblk, hg⟩
  have hs : s0 + s1 * 18446744073709551616 + s2 * 340282366920938463463374607431768211456 + (b0 + b1 * 18446744073709551616 + b2 * 340282366920938463463374607431768211456) < 4083388403051261561560495289181218537472 := by omega
  have hr : f0 + f1 * 18446744073709551616 < 21267647932558653966460912964485513216 := by omega
  have F := foldN_lt _ _ hs hr
  have G := foldN_step (s0 + s1 * 18446744073709551616 + s2 * 340282366920938463463374607431768211456) (b0 + b1 * 18446744073709551616 + b2 * 340282366920938463463374607431768211456) (f0 + f1 * 18446744073709551616) acc hm
  have hval' : n0 + n1 * 18446744073709551616 + n2 * 340282366920938463463374607431768211456 = foldN _ := hval
  exact ⟨rfl, ⟨n0, n1, n2, hblk, hn0, hn1, by rw [hval']; exact F, by rw [hval']; exact G⟩, hg⟩
end Go.Proofs.Ytpedajjmbdjfiaa
