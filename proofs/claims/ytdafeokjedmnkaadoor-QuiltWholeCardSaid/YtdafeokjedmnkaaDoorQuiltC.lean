/-
  A patch: fill.
-/
import Derived.Test.YtdafeokjedmnkaaDoorQuiltB
namespace Go.Proofs.YtdafeokjedmnkaaDoor
open Go.RowKit
set_option linter.unusedVariables false
set_option linter.unusedSimpArgs false

theorem rd_gb {w w' : World} {A : Option Addr} {l : List Int} {g : Nat} (h : Rd w A l) (hg : w.grownBy w' (some g)) (hne : ∀ ad, A = some ad → ad.block ≠ g) : Rd w' A l :=
  ⟨h.1, fun hn => by
    obtain ⟨ad, e, hb, hc⟩ := h.2 hn
    refine ⟨ad, e, Nat.lt_of_lt_of_le hb hg.size, fun j u hu => ?_⟩
    rw [← hc j u hu]
    have hbl : (ad.add j).block = ad.block := block_of_add ad j
    exact World.cell?_of_block (w := w) (by rw [hbl]; exact hg.block _ hb (by intro x; injection x with x; exact hne ad e x))⟩
/-- What a patch holds behind k bytes of p, laid from index 'at' on: what came first stays. -/
def cfill (c : Nat → Option Int) (at_ : Nat) (p : List Int) (k : Nat) : Nat → Option Int := fun i => if at_ ≤ i ∧ i < at_ + k ∧ c i = none then p[i - at_]? else c i
/-- So many of them are new. -/
def newK (c : Nat → Option Int) (at_ : Nat) : Nat → Nat
  | 0 => 0
  | k + 1 => newK c at_ k + (if c (at_ + k) = none then 1 else 0)
theorem newK_s (c : Nat → Option Int) (at_ k : Nat) : newK c at_ (k + 1) = newK c at_ k + (if c (at_ + k) = none then 1 else 0) := rfl
theorem cfill_0 (c : Nat → Option Int) (at_ : Nat) (p : List Int) : cfill c at_ p 0 = c := by
  funext i
  unfold cfill
  rw [if_neg (by omega)]
theorem cfill_old {c : Nat → Option Int} {at_ k : Nat} {p : List Int} (h : c (at_ + k) ≠ none) : cfill c at_ p (k + 1) = cfill c at_ p k := by
  funext i
  unfold cfill
  by_cases hi : i = at_ + k
  · subst hi
    rw [if_neg (by simp [h]), if_neg (by omega)]
  · by_cases h2 : at_ ≤ i ∧ i < at_ + k ∧ c i = none
    · rw [if_pos h2, if_pos ⟨h2.1, by omega, h2.2.2⟩]
    · rw [if_neg h2, if_neg (fun h3 => h2 ⟨h3.1, by omega, h3.2.2⟩)]
theorem cfill_new {c : Nat → Option Int} {at_ k : Nat} {p : List Int} (h : c (at_ + k) = none) {b : Int} (hb : p[k]? = some b) : cfill c at_ p (k + 1) = fun i => if i = at_ + k then some b else cfill c at_ p k i := by
  funext i
  unfold cfill
  by_cases hi : i = at_ + k
  · subst hi
    rw [if_pos ⟨by omega, by omega, h⟩, if_pos rfl, Nat.add_sub_cancel_left, hb]
  · rw [if_neg hi]
    by_cases h2 : at_ ≤ i ∧ i < at_ + k ∧ c i = none
    · rw [if_pos h2, if_pos ⟨h2.1, by omega, h2.2.2⟩]
    · rw [if_neg h2, if_neg (fun h3 => h2 ⟨h3.1, by omega, h3.2.2⟩)]
theorem cfill_next (c : Nat → Option Int) (at_ k : Nat) (p : List Int) : cfill c at_ p k (at_ + k) = c (at_ + k) := by
  unfold cfill
  rw [if_neg (by omega)]
set_option maxHeartbeats 1600000 in
theorem fill_any (g : Nat) (c : Nat → Option Int) (m H : Nat) (bs : List Int) (at_ : Nat) (A : Option Addr) (cp : Nat) (p : List Int) (w : World) (h : PatchIs w g c m H bs) (hr : Rd w A p) (hb : Bytes p) (hsep : ∀ ad, A = some ad → ad.block ≠ g) (hat : at_ + p.length ≤ 64) :
    Calls Tryd.prog 33 #[.pointer (some ⟨g, 0, none⟩), .int .i64 at_, .slice A p.length cp] w fun r w' => r = .returned (.int .i64 (newK c at_ p.length : Nat)) ∧ (∃ H' bs', PatchIs w' g (cfill c at_ p p.length) (m + newK c at_ p.length) H' bs') ∧ w.grownBy w' (some g) := by
  have C0 := Lib.hid (fun W => ones_any H h.lt W)
  rw [h.many] at C0
  have hm64 : m ≤ 64 := by have := onesN_le 64 H; rw [h.many] at this; exact this
  have HR := Lib.hid hr
  have HB := Lib.hid hb
  have HS := Lib.hid hsep
  have c0 := h.c0
  have HP := Lib.hid h
  clear hr hb h hsep
  go_enter Tryd.func33, Tryd.ntmps33
  go_wp2_with fail
  refine (C0.out _).mono ?_
  rintro e w1 ⟨rfl, rfl⟩
  clear c0
  go_wp2_with fail
  go_loopw [18] (fun i wr => ∃ (k : Nat), k ≤ p.length ∧ i = .int .i64 k ∧ (∃ H' bs', PatchIs wr g (cfill c at_ p k) (m + newK c at_ k) H' bs') ∧ w.grownBy wr (some g)) (fun i _ => p.length - (intOf i).toNat)
  case atStart => exact ⟨0, by omega, rfl, ⟨H, bs, by rw [cfill_0]; exact HP.out⟩, gb_refl _ _⟩
  case round =>
    obtain ⟨k, hk, rfl, ⟨H', bs', hp⟩, hg⟩ := hrel
    by_cases hlt : k < p.length
    · obtain ⟨b, off, x, rfl, hbl, hx, hcx⟩ := RdI.at_ (show RdI .u8 wr A p from rd_gb HR.out hg HS.out) hlt
      have xb := HB.out x (List.mem_of_getElem? hx)
      have c0 := hp.c0
      have f0 := hp.frozen 0
      have f1 := hp.frozen (1 + (at_ + k))
      have hi : at_ + k < 64 := by omega
      have cb := hp.cb hi
      have hH := hp.lt
      have hw1 : IntKind.i64.wrap ((at_ : Int) + (k : Int)) = ((at_ + k : Nat) : Int) := by rw [IntWalk.i64_in _ (by omega)]; omega
      obtain ⟨j, hj⟩ : ∃ j, j = at_ + k := ⟨_, rfl⟩
      rw [← hj] at cb f1 hi hw1
      have h2 : 2 ^ j < 2 ^ 64 := Nat.pow_lt_pow_right (by omega) hi
      obtain ⟨B, hB⟩ : ∃ B, B = 2 ^ j := ⟨_, rfl⟩
      have hw2 : IntKind.u64.wrap (2 ^ j) = (B : Int) := by
        rw [hB]
        have e : ((2 ^ j : Nat) : Int) = (2 : Int) ^ j := by simp
        rw [← e, IntWalk.u64_in _ (by omega)]
      have E1 := bits_and_u64_nat H' B hH (by rw [hB]; omega)
      rw [hB, and_bit, ← hB] at E1
      by_cases hn : c (at_ + k) = none
      · have hbit : H'.testBit j = false := by rw [hj, hp.bit (by omega), cfill_next, hn]; rfl
        rw [hbit] at E1
        simp at E1
        have E2 := bits_or_u64_nat H' B hH (by rw [hB]; omega)
        have NP := Lib.hid (hp.set (i := at_ + k) (by omega) (by rw [cfill_next]; exact hn) xb)
        rw [← hj, ← hB] at NP
        obtain ⟨H2, hH2⟩ : ∃ H2, H2 = H' ||| B := ⟨_, rfl⟩
        rw [← hH2] at E2 NP
        have HJ := Lib.hid hj
        have HX := Lib.hid hx
        have HN := Lib.hid hn
        have HG := Lib.hid hg
        clear hp hg hj hB hH2 hx hn h2 hbit
        go_wp2_with fail
        go_roundw
        case rel =>
          refine ⟨k + 1, by omega, by go_num, ⟨H2, bs'.set j x, ?_⟩, gb_set (gb_set HG.out (p := ⟨g, 0, none⟩) rfl _) (p := ⟨g, 1 + j, none⟩) rfl _⟩
          rw [cfill_new HN.out HX.out, ← HJ.out, newK_s, if_pos HN.out]
          exact NP.out
        case measure => simp [intOf]; omega
      · have hbit : H'.testBit j = true := by
          rw [hj, hp.bit (by omega), cfill_next]
          cases h5 : c (at_ + k) with
          | none => exact absurd h5 hn
          | some y => rfl
        rw [hbit] at E1
        have hB0 : B ≠ 0 := by rw [hB]; exact Nat.ne_of_gt (Nat.pow_pos (by omega))
        rw [if_pos rfl] at E1
        have hB1 : ((B : Int) == 0) = false := by rw [beq_eq_false_iff_ne]; omega
        have HPP := Lib.hid hp
        have HG := Lib.hid hg
        have HN := Lib.hid hn
        clear hp hg hj hB hx hn h2 hbit hB0
        go_wp2_with fail
        go_roundw
        case rel =>
          refine ⟨k + 1, by omega, by go_num, ⟨H', bs', ?_⟩, HG.out⟩
          rw [cfill_old HN.out, newK_s, if_neg HN.out]
          exact HPP.out
        case measure => simp [intOf]; omega
    · have hd : decide (k < p.length) = false := by simpa using hlt
      obtain rfl : k = p.length := by omega
      have c0 := hp.c0
      have C1 := Lib.hid (fun W => ones_any H' hp.lt W)
      rw [hp.many] at C1
      have hm2 : m + newK c at_ p.length ≤ 64 := by have := onesN_le 64 H'; rw [hp.many] at this; exact this
      have hw3 : IntKind.i64.wrap (((m + newK c at_ p.length : Nat) : Int) - (m : Int)) = ((newK c at_ p.length : Nat) : Int) := by rw [IntWalk.i64_in _ (by omega)]; omega
      obtain ⟨M, hM⟩ : ∃ M, M = m + newK c at_ p.length := ⟨_, rfl⟩
      obtain ⟨N, hN⟩ : ∃ N, N = newK c at_ p.length := ⟨_, rfl⟩
      rw [← hM] at C1 hw3 hp
      rw [← hN] at hw3
      have HPP := Lib.hid hp
      have HG := Lib.hid hg
      have HMN := Lib.hid hM
      have HNN := Lib.hid hN
      clear hp hg hM hN hm2
      go_wp2_with fail
      refine (C1.out _).mono ?_
      rintro e w2 ⟨rfl, rfl⟩
      go_wp2_with fail
      go_ret
      have hMN := HMN.out
      exact ⟨by rw [← HNN.out]; rfl, ⟨H', bs', hMN ▸ HPP.out⟩, HG.out⟩
end Go.Proofs.YtdafeokjedmnkaaDoor
