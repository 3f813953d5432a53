/-
  A patch: TrailingZeros64, run, fill.
-/
import Derived.Test.YtdafeokjedmnkaaDoorQuiltA
import Derived.Test.YtdafeokjedmnkaaDoorStepV
import Derived.Lib.TrailingZeros
namespace Go.Proofs.YtdafeokjedmnkaaDoor
open Go.RowKit
set_option linter.unusedVariables false
set_option linter.unusedSimpArgs false

theorem gb_refl (w : World) (row : Option Nat) : w.grownBy w row := World.grownBy.refl w row
theorem gb_then {a b c : World} {row : Option Nat} (h : a.grownBy b row) (k : b.grownBy c row) : a.grownBy c row :=
  ⟨k.os.trans h.os, k.tape.trans h.tape, k.output.trans h.output, Nat.le_trans h.size k.size, fun i hi hne => (k.block i (Nat.lt_of_lt_of_le hi h.size) hne).trans (h.block i hi hne)⟩
theorem gb_set {a w : World} {g : Nat} (h : a.grownBy w (some g)) {p : Addr} (hp : p.block = g) (u : Value) : a.grownBy (w.setCell p u) (some g) :=
  ⟨h.os, h.tape, h.output, by simpa [World.setCell] using h.size, fun i hi hne => (Below.heap_setCell w p u i (by rintro rfl; exact hne (by rw [hp]))).trans (h.block i hi hne)⟩
theorem gb_drewN {a w : World} {row : Option Nat} (h : a.grownBy w row) (k : Nat) : a.grownBy (w.drewN k) row := ⟨h.os, h.tape, h.output, h.size, h.block⟩
theorem below_gb {B : Nat} {a w w' : World} {g : Nat} (h : Below B a w) (k : w.grownBy w' (some g)) (hg : B ≤ g) (hB : B ≤ w.heap.size) : Below B a w' :=
  ⟨k.os.trans h.os, k.tape.trans h.tape, k.output.trans h.output, Nat.le_trans h.size k.size, fun i hi => (k.block i (by omega) (by intro e; injection e with e; omega)).trans (h.block i hi)⟩
theorem below_drewN {B : Nat} {a w : World} (h : Below B a w) (k : Nat) : Below B a (w.drewN k) := ⟨h.os, h.tape, h.output, h.size, h.block⟩

/-- The library's table lies where it lies. -/
def TabT (w : World) : Prop := 0 < w.heap.size ∧ ∀ j, j < 64 → w.cell? ⟨0, j, none⟩ = some (.int .u8 ((Lib.deBruijn64tab.getD j 0 : Nat) : Int))
theorem TabT.below {w w' : World} (h : TabT w) (hb : Below w.heap.size w w') : TabT w' := ⟨Nat.lt_of_lt_of_le h.1 hb.size, fun j hj => (hb.cell h.1).trans (h.2 j hj)⟩
theorem or_add (H i : Nat) (h : H / 2 ^ i % 2 = 0) : H ||| 2 ^ i = H + 2 ^ i := by
  have hp : 0 < 2 ^ i := Nat.pow_pos (by omega)
  have h2 : 2 ^ (i + 1) = 2 * 2 ^ i := by rw [Nat.pow_succ]; omega
  obtain ⟨q, hq⟩ : ∃ q, H / 2 ^ i = 2 * q := ⟨H / 2 ^ i / 2, by omega⟩
  have hr : H % 2 ^ i < 2 ^ i := Nat.mod_lt _ hp
  have hH : H = 2 ^ (i + 1) * q + H % 2 ^ i := by
    have := Nat.div_add_mod H (2 ^ i)
    rw [hq] at this
    rw [h2, Nat.mul_comm 2 (2 ^ i), Nat.mul_assoc]
    exact this.symm
  generalize H % 2 ^ i = r at *
  have e1 := Nat.two_pow_add_eq_or_of_lt (i := i + 1) (b := r) (by omega) q
  have e2 := Nat.two_pow_add_eq_or_of_lt (i := i) (b := r) hr 1
  have e3 := Nat.two_pow_add_eq_or_of_lt (i := i + 1) (b := 2 ^ i * 1 + r) (by omega) q
  rw [hH, e1, Nat.or_assoc, Nat.or_comm r (2 ^ i), show 2 ^ i ||| r = 2 ^ i * 1 + r by rw [e2]; simp, ← e3, ← e1]
  omega
theorem and_bit (H i : Nat) : H &&& 2 ^ i = if H.testBit i = true then 2 ^ i else 0 := by
  apply Nat.eq_of_testBit_eq
  intro k
  rw [Nat.testBit_and, Nat.testBit_two_pow]
  by_cases hk : i = k
  · subst hk
    cases hb : H.testBit i <;> simp
  · have : decide (i = k) = false := by simpa using hk
    rw [this, Bool.and_false]
    split
    · rw [Nat.testBit_two_pow, this]
    · simp
/-- So many bits are set from the lowest on. -/
theorem trail (y : Nat) (h0 : y ≠ 0) (h : y < 18446744073709551616) : ∃ k, k < 64 ∧ (y &&& (18446744073709551616 - y)) = 2 ^ k ∧ (∀ i, i < k → (18446744073709551615 - y).testBit i = true) ∧ (18446744073709551615 - y).testBit k = false := by
  obtain ⟨m, hm, hk⟩ := Lib.ctzFrom_spec 64 y (by omega) h
  have hl := (Lib.lowest_bit 64 y h0 h).1
  have e : Lib.ctz 64 y = Lib.ctzFrom 64 y := by simp [Lib.ctz, h0]
  rw [e] at hl
  generalize Lib.ctzFrom 64 y = k at *
  refine ⟨k, hk, hl, ?_, ?_⟩
  · intro i hi
    have hb : y.testBit i = false := by
      rw [hm, Nat.testBit_two_pow_mul]
      simp
      omega
    have h2 : (2 ^ 64 - (y + 1)).testBit i = (decide (i < 64) && !y.testBit i) := Nat.testBit_two_pow_sub_succ h i
    rw [show 18446744073709551615 - y = 2 ^ 64 - (y + 1) by omega, h2, hb]
    simp
    omega
  · have hb : y.testBit k = true := by
      rw [hm, Nat.testBit_two_pow_mul]
      simp
    have h2 : (2 ^ 64 - (y + 1)).testBit k = (decide (k < 64) && !y.testBit k) := Nat.testBit_two_pow_sub_succ h k
    rw [show 18446744073709551615 - y = 2 ^ 64 - (y + 1) by omega, h2, hb]
    simp
theorem tz_zero (w : World) : Calls Tryd.prog 36 #[.int .u64 0] w fun r w' => r = .returned (.int .i64 64) ∧ w = w' := by
  go_enter Tryd.func36, Tryd.ntmps36
  go_wp2
  go_ret
  exact ⟨rfl, rfl⟩
theorem tz_any (y k : Nat) (w : World) (ht : TabT w) (h0 : y ≠ 0) (h : y < 18446744073709551616) (hk : k < 64) (hl : (y &&& (18446744073709551616 - y)) = 2 ^ k) :
    Calls Tryd.prog 36 #[.int .u64 y] w fun r w' => r = .returned (.int .i64 k) ∧ w = w' := by
  have hy : ((y : Int) == 0) = false := by rw [beq_eq_false_iff_ne]; omega
  have W1 : IntKind.u64.wrap (-(y : Int)) = ((18446744073709551616 - y : Nat) : Int) := by rw [IntKind.wrap_u64]; omega
  have E1 : bits .and .u64 (y : Int) ((18446744073709551616 - y : Nat) : Int) = ((2 ^ k : Nat) : Int) := by
    rw [bits_and_u64_nat y (18446744073709551616 - y) h (by omega), hl]
  obtain ⟨d1, d2⟩ := Lib.deBruijn64_at k hk
  obtain ⟨idx, hidx⟩ : ∃ idx, idx = 2 ^ k * 285870213051353865 % 18446744073709551616 / 288230376151711744 := ⟨_, rfl⟩
  rw [← hidx] at d1 d2
  have hc := ht.2 idx d1
  rw [d2] at hc
  obtain ⟨P, hP⟩ : ∃ P, P = 2 ^ k := ⟨_, rfl⟩
  rw [← hP] at E1 hidx
  obtain ⟨M, hM⟩ : ∃ M, M = P * 285870213051353865 % 18446744073709551616 := ⟨_, rfl⟩
  have W2 : IntKind.u64.wrap ((P : Int) * 285870213051353865) = (M : Int) := by rw [IntKind.wrap_u64, hM]; omega
  have W3 : (M : Int) / 288230376151711744 = (idx : Int) := by rw [hidx, ← hM]; omega
  obtain ⟨N, hN⟩ : ∃ N, N = 18446744073709551616 - y := ⟨_, rfl⟩
  rw [← hN] at W1 E1
  have W5 : IntKind.i64.wrap (k : Int) = (k : Int) := IntWalk.i64_in _ (by omega)
  clear hidx hM hP hl h0 ht d2 hN hk
  go_enter Tryd.func36, Tryd.ntmps36
  go_wp2
  go_ret
  exact ⟨rfl, rfl⟩
/-- A patch: what it holds, index by index; how many. -/
structure PatchIs (w : World) (g : Nat) (c : Nat → Option Int) (m : Nat) (H : Nat) (bs : List Int) : Prop where
  blk : Blk w g 67 (Value.int .u64 (H : Int) :: U8 bs).toArray
  lt : H < 18446744073709551616
  len : bs.length = 64
  by_ : Bytes bs
  is : ∀ i, i < 64 → c i = if H.testBit i = true then some (bs.getD i 0) else none
  many : onesN 64 H = m
section
variable {w w' : World} {g : Nat} {c : Nat → Option Int} {m H : Nat} {bs : List Int}
theorem PatchIs.c0 (h : PatchIs w g c m H bs) : w.cell? ⟨g, 0, none⟩ = some (.int .u64 (H : Int)) := by rw [h.blk.cell 0]; rfl
theorem PatchIs.cb (h : PatchIs w g c m H bs) {i : Nat} (hi : i < 64) : w.cell? ⟨g, 1 + i, none⟩ = some (.int .u8 (bs.getD i 0)) := by
  rw [h.blk.cell (1 + i)]
  have hl := h.len
  rw [List.getElem?_toArray, Nat.add_comm, List.getElem?_cons_succ]
  unfold U8
  rw [List.getElem?_map, List.getElem?_eq_getElem (by omega)]
  have e : bs[i]? = some bs[i] := List.getElem?_eq_getElem (by omega)
  simp [List.getD, e]
theorem PatchIs.lt_ (h : PatchIs w g c m H bs) : g < w.heap.size := h.blk.lt
theorem PatchIs.frozen (h : PatchIs w g c m H bs) (i : Nat) : w.frozen? ⟨g, i, none⟩ = false := h.blk.frozen i
theorem PatchIs.keep (h : PatchIs w g c m H bs) (hb : Blk w' g 67 (Value.int .u64 (H : Int) :: U8 bs).toArray) : PatchIs w' g c m H bs := ⟨hb, h.lt, h.len, h.by_, h.is, h.many⟩
theorem PatchIs.bit (h : PatchIs w g c m H bs) {i : Nat} (hi : i < 64) : H.testBit i = (c i).isSome := by
  rw [h.is i hi]
  split
  · rename_i h1; rw [h1]; rfl
  · rename_i h1; simp at h1; rw [h1]; rfl
/-- A bit is set, its byte laid. -/
theorem PatchIs.set (h : PatchIs w g c m H bs) {i : Nat} (hi : i < 64) (hn : c i = none) {b : Int} (hb : 0 ≤ b ∧ b < 256) :
    PatchIs ((w.setCell ⟨g, 0, none⟩ (.int .u64 ((H ||| 2 ^ i : Nat) : Int))).setCell ⟨g, 1 + i, none⟩ (.int .u8 b)) g (fun k => if k = i then some b else c k) (m + 1) (H ||| 2 ^ i) (bs.set i b) := by
  have hl := h.len
  have ht : H.testBit i = false := by rw [h.bit hi, hn]; rfl
  have h2 : 2 ^ i < 2 ^ 64 := Nat.pow_lt_pow_right (by omega) hi
  have hlt : H ||| 2 ^ i < 2 ^ 64 := Nat.or_lt_two_pow (by have := h.lt; omega) h2
  refine ⟨?_, by omega, by simpa using hl, ?_, ?_, ?_⟩
  · have b1 := (h.blk.set_ 0 (.int .u64 ((H ||| 2 ^ i : Nat) : Int))).set_ (1 + i) (.int .u8 b)
    have e : (((Value.int .u64 (H : Int) :: U8 bs).toArray.setIfInBounds 0 (.int .u64 ((H ||| 2 ^ i : Nat) : Int))).setIfInBounds (1 + i) (.int .u8 b)) = (Value.int .u64 ((H ||| 2 ^ i : Nat) : Int) :: U8 (bs.set i b)).toArray := by
      rw [Nat.add_comm 1 i]
      simp [U8, List.map_set]
    rw [e] at b1
    exact b1
  · intro x hx
    rcases List.mem_or_eq_of_mem_set hx with hx | hx
    · exact h.by_ x hx
    · rw [hx]; exact hb
  · intro k hk
    rw [Nat.testBit_or, Nat.testBit_two_pow]
    by_cases hki : k = i
    · subst hki
      simp [List.getD, hl, hk]
    · simp only [hki, if_false]
      rw [h.is k hk]
      have : decide (i = k) = false := by simp; omega
      rw [this, Bool.or_false]
      have e2 : (bs.set i b).getD k 0 = bs.getD k 0 := by simp [List.getD, List.getElem?_set, Ne.symm hki]
      rw [e2]
  · have e1 : H / 2 ^ i % 2 = 0 := by
      have := Nat.testBit_eq_decide_div_mod_eq (x := H) (i := i)
      rw [ht] at this
      simp at this
      omega
    have e2 : H ||| 2 ^ i = H + 2 ^ i := or_add H i e1
    rw [e2, onesN_set 64 i H hi e1, h.many]
end
theorem xor_max (z : Nat) (hz : z < 18446744073709551616) : bits .xor .u64 IntKind.u64.max (z : Int) = ((18446744073709551615 - z : Nat) : Int) := by
  have h1 : BitVec.ofInt 64 IntKind.u64.max = BitVec.allOnes 64 := by decide
  have h2 : (BitVec.ofInt 64 (z : Int)).toNat = z := by
    rw [BitVec.ofInt_natCast, BitVec.toNat_ofNat]; exact Nat.mod_eq_of_lt (by omega)
  show IntKind.u64.wrap ((BitVec.ofInt 64 IntKind.u64.max ^^^ BitVec.ofInt 64 (z : Int)).toNat : Int) = _
  rw [h1, BitVec.allOnes_xor, BitVec.toNat_not, h2, IntKind.wrap_u64]
  omega
theorem run_walk (g : Nat) (H at_ : Nat) (n : Nat) (w : World) (hc : w.cell? ⟨g, 0, none⟩ = some (.int .u64 (H : Int))) (hH : H < 18446744073709551616) (ha : at_ < 64)
    (ht : Calls Tryd.prog 36 #[.int .u64 ((18446744073709551615 - H / 2 ^ at_ : Nat) : Int)] w fun r w' => r = .returned (.int .i64 n) ∧ w = w') :
    Calls Tryd.prog 34 #[.pointer (some ⟨g, 0, none⟩), .int .i64 at_] w fun r w' => r = .returned (.int .i64 n) ∧ w = w' := by
  have HT := Lib.hid ht
  have hd : H / 2 ^ at_ ≤ H := Nat.div_le_self _ _
  have E := xor_max (H / 2 ^ at_) (by omega)
  rw [show ((H / 2 ^ at_ : Nat) : Int) = (H : Int) / 2 ^ at_ by simp] at E
  generalize ((18446744073709551615 - H / 2 ^ at_ : Nat) : Int) = Y at *
  clear ht hd
  go_enter Tryd.func34, Tryd.ntmps34
  go_wp2_with fail
  all_goals (
    refine HT.out.mono ?_
    rintro r w2 ⟨rfl, rfl⟩
    go_wp2_with fail
    go_ret
    exact ⟨rfl, rfl⟩)
/-- How far the patch goes without a gap. -/
theorem run_any (g : Nat) (c : Nat → Option Int) (m H : Nat) (bs : List Int) (at_ : Nat) (w : World) (h : PatchIs w g c m H bs) (ht : TabT w) (ha : at_ < 64) :
    ∃ n : Nat, (Calls Tryd.prog 34 #[.pointer (some ⟨g, 0, none⟩), .int .i64 at_] w fun r w' => r = .returned (.int .i64 n) ∧ w = w') ∧ at_ + n ≤ 64 ∧ (∀ k, k < n → c (at_ + k) ≠ none) ∧ (at_ + n < 64 → c (at_ + n) = none) := by
  have RW := fun n W hc ht => run_walk g H at_ n W hc h.lt ha ht
  obtain ⟨Q, hQ⟩ : ∃ Q, Q = H / 2 ^ at_ := ⟨_, rfl⟩
  have hb : ∀ i, i < 64 → Q.testBit i = H.testBit (at_ + i) := fun i hi => by rw [hQ, Nat.testBit_div_two_pow, Nat.add_comm]
  have hd : Q ≤ H := by rw [hQ]; exact Nat.div_le_self _ _
  rw [← hQ] at RW
  clear hQ
  have hlt := h.lt
  have hz : ∀ i, 64 ≤ at_ + i → H.testBit (at_ + i) = false := fun i hi => Nat.testBit_lt_two_pow (Nat.lt_of_lt_of_le hlt (show 18446744073709551616 ≤ 2 ^ (at_ + i) from Nat.pow_le_pow_right (show 0 < 2 by omega) hi))
  have hcc : ∀ i, at_ + i < 64 → H.testBit (at_ + i) = (c (at_ + i)).isSome := fun i hi => h.bit hi
  by_cases hy : 18446744073709551615 - Q = 0
  · have hH : Q = 18446744073709551615 := by omega
    have hall : ∀ i, i < 64 → Q.testBit i = true := fun i hi => by
      rw [hH, show (18446744073709551615 : Nat) = 2 ^ 64 - 1 by decide, Nat.testBit_two_pow_sub_one]
      simpa using hi
    have ha0 : at_ = 0 := by
      rcases Nat.eq_zero_or_pos at_ with h0 | h0
      · exact h0
      · have h1 := hall (64 - at_) (by omega)
        rw [hb _ (by omega), hz _ (by omega)] at h1
        cases h1
    refine ⟨64, RW 64 w h.c0 ?_, by omega, fun k hk hn => ?_, fun hk => by omega⟩
    · rw [hy]
      exact tz_zero w
    · have h1 := hall k hk
      rw [hb _ (by omega), hcc _ (by omega), hn] at h1
      cases h1
  · obtain ⟨k, hk, hl, h1, h2⟩ := trail (18446744073709551615 - Q) hy (by omega)
    rw [show 18446744073709551615 - (18446744073709551615 - Q) = Q by omega] at h1 h2
    have hle : at_ + k ≤ 64 := by
      rcases Nat.lt_or_ge 64 (at_ + k) with h3 | h3
      · have h4 := h1 (64 - at_) (by omega)
        rw [hb _ (by omega), hz _ (by omega)] at h4
        cases h4
      · exact h3
    refine ⟨k, RW k w h.c0 (tz_any _ k w ht hy (by omega) hk hl), hle, fun j hj hn => ?_, fun hj => ?_⟩
    · have h4 := h1 j hj
      rw [hb _ (by omega), hcc _ (by omega), hn] at h4
      cases h4
    · have h4 := h2
      rw [hb _ hk, hcc _ hj] at h4
      cases h5 : c (at_ + k) with
      | none => rfl
      | some x => rw [h5] at h4; cases h4
end Go.Proofs.YtdafeokjedmnkaaDoor
