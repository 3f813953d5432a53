/-
  Joined texts.
-/
import Derived.Test.YtjibbegdieiknaaDoorMaAD
import Derived.Deep.DeepCutAuto
import Derived.Deep.RegionHeld3
import Derived.Deep.RegionWith
namespace Go.Proofs.YtjibbegdieiknaaDoor
open Go.RowKit
set_option linter.unusedVariables false
set_option linter.unusedSimpArgs false

/-- The words of a factor: eight bytes, with the bits cleared that RFC 8439 clears. -/
def fw (l : List Int) (o m : Nat) : Nat := (w8 l o).toNat &&& m
theorem w8_ok {l : List Int} (hB : Bytes l) (o : Nat) : 0 ≤ w8 l o ∧ w8 l o < 18446744073709551616 := by
  have h1 : 0 ≤ w4 l o ∧ w4 l o < 4294967296 := w4_ok hB o
  have h2 : 0 ≤ w4 l (o + 4) ∧ w4 l (o + 4) < 4294967296 := w4_ok hB (o + 4)
  unfold w8
  omega
theorem fw_is {l : List Int} (hB : Bytes l) (o m : Nat) (hm : m < 18446744073709551616) : bits .and .u64 (w8 l o) (m : Int) = (fw l o m : Int) := by
  have h := w8_ok hB o
  obtain ⟨a, ha⟩ := Int.eq_ofNat_of_zero_le h.1
  rw [fw, ha]
  exact u64_and_nat a m (by omega) hm
theorem slice_arr32z (g : Nat) (w : World) :
    (Instr.sliceAt 22 (.pointer (some ⟨g, 0, none⟩)) none none none).run Tryd.prog w = .ok (.slice (some ⟨g, 0, none⟩) 32 32) w := by
  rw [run_sliceAt_array_all (P := Tryd.prog) w 22 ⟨g, 0, none⟩ (by rw [arr32_len, arr32_elem]; exact Tryd.underlying22), arr32_elem, run_sizeOf_u8, arr32_len]
  simp [slicedAt, Addr.add]

theorem below_drewN {B : Nat} {a w : World} (h : Below B a w) (n : Nat) : Below B a (w.drewN n) := ⟨h.os, h.tape, h.output, h.size, h.block⟩
set_option maxHeartbeats 1600000 in
theorem newAuthenticator_any (key : List Int) (w : World) (hk : key.length = 32) (hB : Bytes key) :
    Calls Tryd.prog 54 #[.agg (IV .u8 key).toArray] w fun e w' => ∃ g, e = .returned (.pointer (some ⟨g, 0, none⟩)) ∧ w.heap.size ≤ g ∧
      Blk w' g 124 #[.int .u64 0, .int .u64 0, .int .u64 0, .int .u64 (fw key 0 1152921487695413247), .int .u64 (fw key 8 1152921487695413244), .int .u64 (w8 key 16), .int .u64 (w8 key 24)] ∧ Below w.heap.size w w' := by
  have e0 := fw_is hB 0 1152921487695413247 (by decide)
  have e1 := fw_is hB 8 1152921487695413244 (by decide)
  rw [show ((1152921487695413247 : Nat) : Int) = 1152921487695413247 from rfl] at e0
  rw [show ((1152921487695413244 : Nat) : Int) = 1152921487695413244 from rfl] at e1
  obtain ⟨f0, hf0⟩ : ∃ f, f = fw key 0 1152921487695413247 := ⟨_, rfl⟩
  obtain ⟨f1, hf1⟩ : ∃ f, f = fw key 8 1152921487695413244 := ⟨_, rfl⟩
  rw [← hf0] at e0 ⊢
  rw [← hf1] at e1 ⊢
  clear hf0 hf1
  obtain ⟨KA, hKA⟩ : ∃ KA, KA = (IV .u8 key).toArray := ⟨_, rfl⟩
  rw [← hKA]
  have HKA := Lib.hid hKA
  clear hKA
  go_enter Tryd.func54, Tryd.ntmps54
  go_upto_region 1 with (fail)
  have kk : Blk (w.alloc (.cells KA 22)) w.heap.size 22 (IV .u8 key).toArray := HKA.out ▸ Blk.new w _ _
  have bw : Below w.heap.size w (w.alloc (.cells KA 22)) := (Below.refl _ _).alloc (Nat.le_refl _) _
  obtain ⟨gK, hgK⟩ : ∃ g, g = w.heap.size := ⟨_, rfl⟩
  have HGK := Lib.hid hgK
  rw [← hgK] at kk bw
  show Code.wp _ _ _ _ (w.alloc (.cells KA 22))
  generalize w.alloc (.cells KA 22) = w1 at kk bw ⊢
  rw [← hgK]
  have G0 := Lib.hid (fun k => word64_of (w := w1.drewN k) (kk.drewN k) hB 0 32 32 (by omega) (by omega) (by omega) (by omega))
  have G1 := Lib.hid (fun k => word64_of (w := w1.drewN k) (kk.drewN k) hB 8 24 24 (by omega) (by omega) (by omega) (by omega))
  have G2 := Lib.hid (fun k => word64_of (w := w1.drewN k) (kk.drewN k) hB 16 16 16 (by omega) (by omega) (by omega) (by omega))
  have G3 := Lib.hid (fun k => word64_of (w := w1.drewN k) (kk.drewN k) hB 24 8 8 (by omega) (by omega) (by omega) (by omega))
  have G0' := Lib.hid (show Calls Tryd.prog 75 #[.slice (some ⟨gK, 0, none⟩) 32 32] w1.drew _ from G0.out 1)
  have s0 := slice_arr32z gK
  have s1 : ∀ W : World, (Instr.sliceAt 22 (.pointer (some ⟨gK, 0, none⟩)) (some (.int .i64 8)) none none).run Tryd.prog W = .ok (.slice (some ⟨gK, 8, none⟩) 24 24) W := fun W => slice_arr32 gK 8 .i64 (by omega) W
  have s2 : ∀ W : World, (Instr.sliceAt 22 (.pointer (some ⟨gK, 0, none⟩)) (some (.int .i64 16)) none none).run Tryd.prog W = .ok (.slice (some ⟨gK, 16, none⟩) 16 16) W := fun W => slice_arr32 gK 16 .i64 (by omega) W
  have s3 : ∀ W : World, (Instr.sliceAt 22 (.pointer (some ⟨gK, 0, none⟩)) (some (.int .i64 24)) none none).run Tryd.prog W = .ok (.slice (some ⟨gK, 24, none⟩) 8 8) W := fun W => slice_arr32 gK 24 .i64 (by omega) W
  have KK := Lib.hid kk
  have BW := Lib.hid bw
  have HK := Lib.hid hk
  have HB := Lib.hid hB
  clear hgK kk bw hk hB
  go_region_with (first
    | (go_at_call 75
       (with_reducible refine G0'.out.mono ?_)
       rintro e wa ⟨rfl, k1, rfl⟩)
    | (go_at_call 75
       (with_reducible refine (G1.out _).mono ?_)
       rintro e wb ⟨rfl, k2, rfl⟩)
    | (go_at_call 75
       (with_reducible refine (G2.out _).mono ?_)
       rintro e wc ⟨rfl, k3, rfl⟩)
    | (go_at_call 75
       (with_reducible refine (G3.out _).mono ?_)
       rintro e wd ⟨rfl, k4, rfl⟩))
  all_goals
    have hb : Below w.heap.size w w1 := HGK.out ▸ BW.out
    have HB1 := Lib.hid hb
    clear hb
    go_wp2_with fail
    go_ret
    exact ⟨w1.heap.size, rfl, HB1.out.size, Blk.new (w1.drewN _) _ _, Below.alloc (w := w1.drewN _) (below_drewN HB1.out _) HB1.out.size _⟩
end Go.Proofs.YtjibbegdieiknaaDoor

/-
  The authenticator as a number: one step by value, modulo p = 2^130 - 5.
-/
namespace Go.Proofs.YtjibbegdieiknaaDoor
open Go.RowKit
set_option linter.unusedVariables false

/-- What 'times' leaves of a product. -/
def foldN (v : Nat) : Nat := v % 340282366920938463463374607431768211456 + 5 * (v / 340282366920938463463374607431768211456 / 4) + v / 340282366920938463463374607431768211456 % 4 * 340282366920938463463374607431768211456
theorem foldN_is (v : Nat) : foldN v + 1361129467683753853853498429727072845819 * (v / 1361129467683753853853498429727072845824) = v := by
  unfold foldN
  have e : v / 340282366920938463463374607431768211456 / 4 = v / 1361129467683753853853498429727072845824 := by rw [Nat.div_div_eq_div_mul]
  rw [e]
  have h1 := Nat.mod_add_div v 340282366920938463463374607431768211456
  have h2 := Nat.mod_add_div (v / 340282366920938463463374607431768211456) 4
  rw [e] at h2
  generalize v / 1361129467683753853853498429727072845824 = q at *
  generalize v / 340282366920938463463374607431768211456 = d at *
  generalize v % 340282366920938463463374607431768211456 = r at *
  generalize d % 4 = m at *
  omega
theorem foldN_mod (v : Nat) : foldN v % 1361129467683753853853498429727072845819 = v % 1361129467683753853853498429727072845819 := by
  have h := foldN_is v
  have : v % 1361129467683753853853498429727072845819 = (foldN v + 1361129467683753853853498429727072845819 * (v / 1361129467683753853853498429727072845824)) % 1361129467683753853853498429727072845819 := by rw [h]
  rw [this, Nat.add_mul_mod_self_left]
theorem foldN_lt (s r : Nat) (hs : s < 4083388403051261561560495289181218537472) (hr : r < 21267647932558653966460912964485513216) : foldN (s * r) < 2041694201525630780780247644590609268736 := by
  have h : s * r ≤ 4083388403051261561560495289181218537472 * 21267647932558653966460912964485513216 := Nat.mul_le_mul (Nat.le_of_lt hs) (Nat.le_of_lt hr)
  have e := foldN_is (s * r)
  generalize s * r = v at *
  omega
/-- A step: what was taken so far stands for acc. -/
theorem foldN_step (S B R acc : Nat) (h : S % 1361129467683753853853498429727072845819 = acc % 1361129467683753853853498429727072845819) :
    foldN ((S + B) * R) % 1361129467683753853853498429727072845819 = ((acc + B) * R) % 1361129467683753853853498429727072845819 := by
  rw [foldN_mod, Nat.mul_mod, Nat.add_mod S, h, ← Nat.add_mod, ← Nat.mul_mod]
/-- The three words of the sum, and what they stand for. -/
structure Au (w : World) (g acc f0 f1 z0 z1 : Nat) : Prop where
  words : ∃ s0 s1 s2 : Nat, Blk w g 124 #[.int .u64 s0, .int .u64 s1, .int .u64 s2, .int .u64 f0, .int .u64 f1, .int .u64 z0, .int .u64 z1] ∧
    s0 < 18446744073709551616 ∧ s1 < 18446744073709551616 ∧ s0 + s1 * 18446744073709551616 + s2 * 340282366920938463463374607431768211456 < 2041694201525630780780247644590609268736 ∧
    (s0 + s1 * 18446744073709551616 + s2 * 340282366920938463463374607431768211456) % 1361129467683753853853498429727072845819 = acc % 1361129467683753853853498429727072845819

/-- 'add' by value: a block b of two words and a bit. -/
theorem add_au (ga acc f0 f1 z0 z1 b0 b1 b2 : Nat) (w : World) (ha : Au w ga acc f0 f1 z0 z1) (hb0 : b0 < 18446744073709551616) (hb1 : b1 < 18446744073709551616) (hb2 : b2 ≤ 1)
    (h3 : f0 < 1152921504606846976) (h4 : f1 < 1152921504606846976) :
    Calls Tryd.prog 76 #[.pointer (some ⟨ga, 0, none⟩), .agg #[.int .u64 b0, .int .u64 b1, .int .u64 b2]] w fun e w' =>
      e = .returned (.tuple #[]) ∧ Au w' ga ((acc + (b0 + b1 * 18446744073709551616 + b2 * 340282366920938463463374607431768211456)) * (f0 + f1 * 18446744073709551616)) f0 f1 z0 z1 ∧ w.grownBy w' (some ga) := by
  obtain ⟨s0, s1, s2, hb, h0, h1, hv, hm⟩ := ha.words
  have k2 : s2 ≤ 5 := by omega
  refine (add_any ga s0 s1 s2 f0 f1 z0 z1 b0 b1 b2 w hb h0 h1 k2 hb0 hb1 hb2 h3 h4 _ rfl).mono ?_
  rintro e w' ⟨n0, n1, n2, rfl, hn0, hn1, hval, hblk, hg⟩
  have hs : s0 + s1 * 18446744073709551616 + s2 * 340282366920938463463374607431768211456 + (b0 + b1 * 18446744073709551616 + b2 * 340282366920938463463374607431768211456) < 4083388403051261561560495289181218537472 := by omega
  have hr : f0 + f1 * 18446744073709551616 < 21267647932558653966460912964485513216 := by omega
  have F := foldN_lt _ _ hs hr
  have G := foldN_step (s0 + s1 * 18446744073709551616 + s2 * 340282366920938463463374607431768211456) (b0 + b1 * 18446744073709551616 + b2 * 340282366920938463463374607431768211456) (f0 + f1 * 18446744073709551616) acc hm
  have hval' : n0 + n1 * 18446744073709551616 + n2 * 340282366920938463463374607431768211456 = foldN _ := hval
  exact ⟨rfl, ⟨n0, n1, n2, hblk, hn0, hn1, by rw [hval']; exact F, by rw [hval']; exact G⟩, hg⟩
end Go.Proofs.YtjibbegdieiknaaDoor

namespace Go.Proofs.YtjibbegdieiknaaDoor
open Go.RowKit
set_option linter.unusedVariables false

def put8 (l : List Int) (o : Nat) (v : Int) : List Int := put4 (put4 l o (v % 4294967296)) (o + 4) (v / 4294967296)

set_option maxHeartbeats 800000 in
theorem putWord64_any (g : Nat) (t : TypeId) (l : List Int) (off n c : Nat) (v : Int) (w : World) (hb : Blk w g t (IV .u8 l).toArray) (hv : 0 ≤ v ∧ v < 18446744073709551616) (hn : 8 ≤ n) (hc : n ≤ c) (hm : c ≤ 9223372036854775807) (hl : off + 8 ≤ l.length) :
    Calls Tryd.prog 56 #[.slice (some ⟨g, off, none⟩) n c, .int .u64 v] w fun e w' => e = .returned (.tuple #[]) ∧ Blk w' g t (IV .u8 (put8 l off v)).toArray ∧ w.grownBy w' (some g) := by
  have lo : 0 ≤ v % 4294967296 ∧ v % 4294967296 < 4294967296 := by omega
  have hi : 0 ≤ v / 4294967296 ∧ v / 4294967296 < 4294967296 := by omega
  have P0 := Lib.hid (fun W (h : Blk W g t (IV .u8 l).toArray) => putWord32_any g t l off n c (v % 4294967296) W h lo (by omega) (by omega) (by omega))
  have P1 := Lib.hid (fun W (h : Blk W g t (IV .u8 (put4 l off (v % 4294967296))).toArray) => putWord32_any g t (put4 l off (v % 4294967296)) (off + 4) (n - 4) (c - 4) (v / 4294967296) W h hi (by omega) (by omega) (by rw [put4_length l off _ (by omega)]; omega))
  have hS : ∀ W : World, (Instr.slice 23 (.slice (some ⟨g, off, none⟩) n c) (some (.int .i64 4)) none none).run Tryd.prog W = .ok (.slice (some ⟨g, off + 4, none⟩) (n - 4) (c - 4)) W := fun W => by
    rw [show ((4 : Int)) = ((4 : Nat) : Int) from rfl, run_slice_l (P := Tryd.prog) W 23 (some ⟨g, off, none⟩) n c (by rw [elem_u8]; exact Tryd.underlying23) .i64 ((4 : Nat) : Int) (by omega) (by omega), elem_u8]
    rw [run_sizeOf_u8]
    simp [sliced, Addr.add, show ¬ c = 4 by omega]
  have w0 : IntKind.u32.wrap v = v % 4294967296 := by rw [IntKind.wrap_u32]
  have w1 : IntKind.u32.wrap (v / 4294967296) = v / 4294967296 := by rw [IntKind.wrap_u32]; omega
  have HB := Lib.hid hb
  clear hb
  go_enter Tryd.func56, Tryd.ntmps56
  go_wp2_with fail
  refine (P0.out _ HB.out).mono ?_
  rintro e wa ⟨rfl, b1, g1⟩
  have B1 := Lib.hid b1
  have G1 := Lib.hid g1
  clear b1 g1
  go_wp2_with fail
  refine (P1.out _ B1.out).mono ?_
  rintro e wb ⟨rfl, b2, g2⟩
  have B2 := Lib.hid b2
  have G2 := Lib.hid (only_trans G1.out g2)
  clear b2 g2
  go_wp2_with fail
  exact bodyPost_end (v := .tuple #[]) (results_none (by rfl) _ _ _) (by rfl) ⟨rfl, B2.out, G2.out⟩
end Go.Proofs.YtjibbegdieiknaaDoor

namespace Go.Proofs.YtjibbegdieiknaaDoor
open Go.RowKit
set_option linter.unusedVariables false
set_option linter.unusedSimpArgs false

theorem arr16_len : Tryd.prog.arrayLen 78 = 16 := by kernel_rfl
theorem arr16_elem : Tryd.prog.elem 78 = 5 := by kernel_rfl
theorem slice_arr16_8 (g : Nat) (w : World) :
    (Instr.sliceAt 78 (.pointer (some ⟨g, 0, none⟩)) none (some (.int .i64 8)) none).run Tryd.prog w = .ok (.slice (some ⟨g, 0, none⟩) 8 16) w := by
  rw [run_sliceAt_array_h (P := Tryd.prog) w 78 ⟨g, 0, none⟩ (by rw [arr16_len, arr16_elem]; exact Tryd.underlying78) .i64 8 (by omega) (by rw [arr16_len]; omega), arr16_elem, run_sizeOf_u8, arr16_len]
  simp [slicedAt, Addr.add]
theorem slice_arr16_from8 (g : Nat) (w : World) :
    (Instr.sliceAt 78 (.pointer (some ⟨g, 0, none⟩)) (some (.int .i64 8)) none none).run Tryd.prog w = .ok (.slice (some ⟨g, 8, none⟩) 8 8) w := by
  rw [run_sliceAt_array_l (P := Tryd.prog) w 78 ⟨g, 0, none⟩ (by rw [arr16_len, arr16_elem]; exact Tryd.underlying78) .i64 8 (by omega) (by rw [arr16_len]; omega), arr16_elem, run_sizeOf_u8, arr16_len]
  simp [slicedAt, Addr.add]
/-- Sixteen bytes of a number. -/
def tg (n : Nat) : List Int := put8 (put8 (List.replicate 16 0) 0 ((n % 18446744073709551616 : Nat) : Int)) 8 ((n / 18446744073709551616 % 18446744073709551616 : Nat) : Int)

theorem tag_val (r0 r1 z0 z1 R : Nat) (h : r0 + r1 * 18446744073709551616 = R) :
    (r0 + z0) % 18446744073709551616 = (R + (z0 + z1 * 18446744073709551616)) % 18446744073709551616 ∧ (r1 + z1 + (r0 + z0) / 18446744073709551616) % 18446744073709551616 = (R + (z0 + z1 * 18446744073709551616)) / 18446744073709551616 % 18446744073709551616 := by
  subst h
  constructor <;> omega

set_option maxHeartbeats 1600000 in
theorem tag_any (ga acc f0 f1 z0 z1 : Nat) (w : World) (ha : Au w ga acc f0 f1 z0 z1) (hz0 : z0 < 18446744073709551616) (hz1 : z1 < 18446744073709551616) :
    Calls Tryd.prog 58 #[.pointer (some ⟨ga, 0, none⟩)] w fun e w' =>
      e = .returned (.agg (IV .u8 (tg (acc % 1361129467683753853853498429727072845819 % 340282366920938463463374607431768211456 + (z0 + z1 * 18446744073709551616)))).toArray) ∧ Below w.heap.size w w' := by
  obtain ⟨s0, s1, s2, hb, h0, h1, hv, hm⟩ := ha.words
  have CR := Lib.hid (fun W => reduce_any s0 s1 s2 h0 h1 _ rfl (by omega) W)
  obtain ⟨R, hR⟩ : ∃ R, R = acc % 1361129467683753853853498429727072845819 % 340282366920938463463374607431768211456 := ⟨_, rfl⟩
  rw [hm, ← hR] at CR
  rw [← hR]
  clear hR hm hv
  have HB := Lib.hid hb
  have CR' := CR
  clear ha hb CR
  obtain ⟨n0, hn0⟩ : ∃ n, n = (R + (z0 + z1 * 18446744073709551616)) % 18446744073709551616 := ⟨_, rfl⟩
  obtain ⟨n1, hn1⟩ : ∃ n, n = (R + (z0 + z1 * 18446744073709551616)) / 18446744073709551616 % 18446744073709551616 := ⟨_, rfl⟩
  have hout : tg (R + (z0 + z1 * 18446744073709551616)) = put8 (put8 (List.replicate 16 0) 0 n0) 8 n1 := by rw [hn0, hn1]; rfl
  rw [hout]
  have l8 : (put8 (List.replicate 16 0) 0 (n0 : Int)).length = 16 := by unfold put8; rw [put4_length _ _ _ (by rw [put4_length _ _ _ (by simp)]; simp), put4_length _ _ _ (by simp)]; simp
  have l16 : (put8 (put8 (List.replicate 16 0) 0 (n0 : Int)) 8 (n1 : Int)).length = 16 := by rw [put8, put4_length _ _ _ (by rw [put4_length _ _ _ (by rw [l8]; omega), l8]; omega), put4_length _ _ _ (by rw [l8]; omega)]; exact l8
  obtain ⟨OUT, hOUT⟩ : ∃ OUT, OUT = put8 (put8 (List.replicate 16 0) 0 (n0 : Int)) 8 (n1 : Int) := ⟨_, rfl⟩
  rw [← hOUT]
  rw [← hOUT] at l16
  have SOUT := Lib.hid (show (IV .u8 OUT).toArray.size = 16 by simp [IV, l16])
  have AOUT := Lib.hid (show (IV .u8 OUT).toArray.all (·.oneCell') = true by simp [IV, Value.oneCell'])
  have I16 := Lib.hid (show (Tryd.prog.info? 78).map (·.size) = some 16 by kernel_rfl)
  have HOUT := Lib.hid hOUT
  have L8 := Lib.hid l8
  clear hOUT l8 l16
  have N0 := Lib.hid hn0
  have N1 := Lib.hid hn1
  clear hn0 hn1 hout
  go_enter Tryd.func58, Tryd.ntmps58
  go_upto_region 1 with (fail)
  have ko : Blk (w.alloc (.cells #[.int .u8 0, .int .u8 0, .int .u8 0, .int .u8 0, .int .u8 0, .int .u8 0, .int .u8 0, .int .u8 0, .int .u8 0, .int .u8 0, .int .u8 0, .int .u8 0, .int .u8 0, .int .u8 0, .int .u8 0, .int .u8 0] 78)) w.heap.size 78 (IV .u8 (List.replicate 16 0)).toArray := Blk.new w _ _
  have ka := HB.out.alloc (.cells #[.int .u8 0, .int .u8 0, .int .u8 0, .int .u8 0, .int .u8 0, .int .u8 0, .int .u8 0, .int .u8 0, .int .u8 0, .int .u8 0, .int .u8 0, .int .u8 0, .int .u8 0, .int .u8 0, .int .u8 0, .int .u8 0] 78)
  have bw : Below w.heap.size w (w.alloc (.cells #[.int .u8 0, .int .u8 0, .int .u8 0, .int .u8 0, .int .u8 0, .int .u8 0, .int .u8 0, .int .u8 0, .int .u8 0, .int .u8 0, .int .u8 0, .int .u8 0, .int .u8 0, .int .u8 0, .int .u8 0, .int .u8 0] 78)) := (Below.refl _ _).alloc (Nat.le_refl _) _
  obtain ⟨gO, hgO⟩ : ∃ g, g = w.heap.size := ⟨_, rfl⟩
  have HGO := Lib.hid hgO
  rw [← hgO] at ko bw ⊢
  clear hgO
  show Code.wp _ _ _ _ (w.alloc (.cells #[.int .u8 0, .int .u8 0, .int .u8 0, .int .u8 0, .int .u8 0, .int .u8 0, .int .u8 0, .int .u8 0, .int .u8 0, .int .u8 0, .int .u8 0, .int .u8 0, .int .u8 0, .int .u8 0, .int .u8 0, .int .u8 0] 78))
  generalize w.alloc (.cells #[.int .u8 0, .int .u8 0, .int .u8 0, .int .u8 0, .int .u8 0, .int .u8 0, .int .u8 0, .int .u8 0, .int .u8 0, .int .u8 0, .int .u8 0, .int .u8 0, .int .u8 0, .int .u8 0, .int .u8 0, .int .u8 0] 78) = w2 at ko ka bw ⊢
  have KO := Lib.hid ko
  have KAr := Lib.hid (show ∀ W, Below w2.heap.size w2 W → W.cell? ⟨ga, 0, none⟩ = some (.int .u64 s0) ∧ W.cell? ⟨ga, 1, none⟩ = some (.int .u64 s1) ∧ W.cell? ⟨ga, 2, none⟩ = some (.int .u64 s2) ∧ W.cell? ⟨ga, 5, none⟩ = some (.int .u64 z0) ∧ W.cell? ⟨ga, 6, none⟩ = some (.int .u64 z1) from fun W h => ⟨(ka.below h ka.lt).cell 0, (ka.below h ka.lt).cell 1, (ka.below h ka.lt).cell 2, (ka.below h ka.lt).cell 5, (ka.below h ka.lt).cell 6⟩)
  have BW := Lib.hid bw
  have lO := ko.lt
  clear ko ka bw HB
  have bIr : Below w2.heap.size w2 w2.drew := ⟨rfl, rfl, rfl, Nat.le_refl _, fun _ _ => rfl⟩
  have HBIr := Lib.hid bIr
  have lIr : w2.drew.heap.size = w2.heap.size := rfl
  have CP := Lib.hid (fun (r0 r1 : Nat) (h : r0 < 18446744073709551616) W => plus_any r0 r1 z0 z1 h hz0 W)
  have TV := Lib.hid (fun r0 r1 h => tag_val r0 r1 z0 z1 R h)
  clear bIr
  go_cut [3] (fun p wx => ∃ gN, p = .pointer (some ⟨gN, 0, none⟩) ∧ w2.heap.size ≤ gN ∧ Blk wx gN 120 #[.int .u64 n0, .int .u64 n1] ∧ Below w2.heap.size w2 wx)
  case first =>
   go_region_held3 (fun w' => w'.cell? ⟨ga, 0, none⟩ = some (.int .u64 s0) ∧ w'.cell? ⟨ga, 1, none⟩ = some (.int .u64 s1) ∧ w'.cell? ⟨ga, 2, none⟩ = some (.int .u64 s2) ∧ w'.cell? ⟨ga, 5, none⟩ = some (.int .u64 z0) ∧ w'.cell? ⟨ga, 6, none⟩ = some (.int .u64 z1)) (first
    | exact KAr.out _ Er
    | exact KAr.out _ Br
    | exact KAr.out _ HBIr.out
    | exact KAr.out _ (Below.setCell (Below.setCell Er Br.size _) Br.size _)
    | exact KAr.out _ (Below.setCell (Below.setCell Er (Nat.le_refl _) _) (Nat.le_refl _) _)
    | exact KAr.out _ (Below.alloc HBIr.out (Nat.le_refl _) _)
    | exact KAr.out _ (Below.alloc Br Br.size _)
    | exact KAr.out _ (Below.alloc Er Er.size _)
    | (go_keep; done)) (first
    | (go_at_call 77
       (with_reducible refine (CR'.out _).mono ?_)
       rintro e war ⟨r0, r1, rfl, hr0, hr1, hrv, b3⟩
       have PP := Lib.hid (fun W => CP.out r0 r1 hr0 W)
       rw [(TV.out r0 r1 hrv).1, (TV.out r0 r1 hrv).2, ← N0.out, ← N1.out] at PP
       have Br : Below w2.heap.size w2 war := by first | exact HBIr.out.trans (b3.mono (Nat.le_refl _)) | exact (HBIr.out.alloc (Nat.le_refl _) _).trans (b3.mono (by simp))
       try (have n3 : Blk war w2.heap.size 120 #[.int .u64 0, .int .u64 0] := Blk.below (Blk.new w2.drew 120 #[.int .u64 0, .int .u64 0]) b3 (by simp)))
    | (go_at_call 78
       (with_reducible refine (PP.out _).mono ?_)
       rintro e wcr ⟨rfl, b5⟩
       have Er : Below w2.heap.size w2 wcr := by first | exact Br.trans (b5.mono Br.size) | exact (Br.alloc Br.size _).trans (b5.mono (by have := Br.size; simp; omega))
       try (have n5 : Blk wcr _ 120 #[.int .u64 0, .int .u64 0] := Blk.below n3 b5 n3.lt)
       try (have n5 : Blk wcr war.heap.size 120 #[.int .u64 0, .int .u64 0] := Blk.below (Blk.new war 120 #[.int .u64 0, .int .u64 0]) b5 (by simp))
       try (have v50 := n5.cell 0; have v51 := n5.cell 1; have f50 := n5.frozen 0; have f51 := n5.frozen 1)))
   all_goals
     go_wp2_with fail
     go_meet
     first
       | exact ⟨_, rfl, Er.size, Blk.new wcr _ _, Er.alloc Er.size _⟩
       | exact ⟨_, rfl, Br.size, (n5.set_ 0 _).set_ 1 _, Below.setCell (Below.setCell Er Br.size _) Br.size _⟩
       | exact ⟨_, rfl, Nat.le_refl _, (n5.set_ 0 _).set_ 1 _, Below.setCell (Below.setCell Er (Nat.le_refl _) _) (Nat.le_refl _) _⟩
  case rest =>
    obtain ⟨gN, rfl, hgN, bN, bW⟩ := hcut
    rename World => w4
    go_upto_region 3 with (fail)
    have kt : Blk (w4.alloc (.cells #[.int .u8 0, .int .u8 0, .int .u8 0, .int .u8 0, .int .u8 0, .int .u8 0, .int .u8 0, .int .u8 0, .int .u8 0, .int .u8 0, .int .u8 0, .int .u8 0, .int .u8 0, .int .u8 0, .int .u8 0, .int .u8 0] 78)) w4.heap.size 78 (IV .u8 (List.replicate 16 0)).toArray := Blk.new w4 _ _
    have ko := (KO.out.below bW KO.out.lt).alloc (.cells #[.int .u8 0, .int .u8 0, .int .u8 0, .int .u8 0, .int .u8 0, .int .u8 0, .int .u8 0, .int .u8 0, .int .u8 0, .int .u8 0, .int .u8 0, .int .u8 0, .int .u8 0, .int .u8 0, .int .u8 0, .int .u8 0] 78)
    have kn := bN.alloc (.cells #[.int .u8 0, .int .u8 0, .int .u8 0, .int .u8 0, .int .u8 0, .int .u8 0, .int .u8 0, .int .u8 0, .int .u8 0, .int .u8 0, .int .u8 0, .int .u8 0, .int .u8 0, .int .u8 0, .int .u8 0, .int .u8 0] 78)
    have hs0 : gO ≤ w2.heap.size := by have := BW.out.size; have := HGO.out; omega
    have bw := (BW.out.trans (bW.mono hs0)).alloc (Nat.le_trans hs0 bW.size) (.cells #[.int .u8 0, .int .u8 0, .int .u8 0, .int .u8 0, .int .u8 0, .int .u8 0, .int .u8 0, .int .u8 0, .int .u8 0, .int .u8 0, .int .u8 0, .int .u8 0, .int .u8 0, .int .u8 0, .int .u8 0, .int .u8 0] 78)
    have nO : gO ≠ w4.heap.size := by have := bW.size; omega
    have nN : gN ≠ w4.heap.size := by have := bN.lt; omega
    have lT : gO ≤ w4.heap.size := by have := bW.size; omega
    obtain ⟨gT, hgT⟩ : ∃ g, g = w4.heap.size := ⟨_, rfl⟩
    rw [← hgT] at kt nO nN lT ⊢
    clear hgT
    show Code.wp _ _ _ _ (w4.alloc (.cells #[.int .u8 0, .int .u8 0, .int .u8 0, .int .u8 0, .int .u8 0, .int .u8 0, .int .u8 0, .int .u8 0, .int .u8 0, .int .u8 0, .int .u8 0, .int .u8 0, .int .u8 0, .int .u8 0, .int .u8 0, .int .u8 0] 78))
    generalize w4.alloc (.cells #[.int .u8 0, .int .u8 0, .int .u8 0, .int .u8 0, .int .u8 0, .int .u8 0, .int .u8 0, .int .u8 0, .int .u8 0, .int .u8 0, .int .u8 0, .int .u8 0, .int .u8 0, .int .u8 0, .int .u8 0, .int .u8 0] 78) = w5 at kt ko kn bw ⊢
    have s1 := slice_arr16_8 gT
    have s2 := slice_arr16_from8 gT
    have b0 : (0 : Int) ≤ n0 ∧ (n0 : Int) < 18446744073709551616 := by have : n0 < 18446744073709551616 := N0.out ▸ m64_lt _; omega
    have b1 : (0 : Int) ≤ n1 ∧ (n1 : Int) < 18446744073709551616 := by have : n1 < 18446744073709551616 := N1.out ▸ m64_lt _; omega
    have l8 := L8.out
    have P0 := Lib.hid (putWord64_any gT 78 (List.replicate 16 0) 0 8 16 n0 w5.drew kt.drew b0 (by omega) (by omega) (by omega) (by simp))
    have P1 := Lib.hid (fun W (h : Blk W gT 78 (IV .u8 (put8 (List.replicate 16 0) 0 n0)).toArray) => putWord64_any gT 78 _ 8 8 8 n1 W h b1 (by omega) (by omega) (by omega) (by rw [l8]; omega))
    have c0 : w5.cell? ⟨gN, 0, none⟩ = some (.int .u64 n0) := kn.cell 0
    have KO5 := Lib.hid ko
    have KN5 := Lib.hid kn
    have BW5 := Lib.hid bw
    clear hs0 bW bN kt ko kn bw b0 b1 l8 KO KAr BW HBIr CP TV CR' lIr lO
    go_region_with (first
      | (go_at_call 56
         (with_reducible refine P0.out.mono ?_)
         rintro e w6 ⟨rfl, bt, g6⟩))
    all_goals
      have kt := Lib.hid bt
      have c1 : w6.cell? ⟨gN, 1, none⟩ = some (.int .u64 n1) := (KN5.out.drew.grown g6 (by simp [nN])).cell 1
      have KO6 := Lib.hid (KO5.out.drew.grown g6 (by simp [nO]))
      have BW6 := Lib.hid (grown_below (BW5.out.drew) g6 (show gO ≤ w5.heap.size by have := BW5.out.size; have := HGO.out; omega) lT)
      have P2 := Lib.hid (P1.out w6.drew bt.drew)
      clear bt g6
      have BW6d : gO ≤ w6.heap.size := by have := BW6.out.size; have := HGO.out; omega
      clear P0 P1 c0
      go_upto_region 4 with (fail)
      go_region_with (first
        | (go_at_call 56
           (with_reducible refine P2.out.mono ?_)
           rintro e w7 ⟨rfl, bt, g7⟩))
      all_goals
        rw [← HOUT.out] at bt
        have KT7 := Lib.hid bt
        have KO7 := Lib.hid (KO6.out.drew.grown g7 (by simp [nO]))
        have BW7 := Lib.hid (grown_below (BW6.out.drew) g7 BW6d lT)
        clear bt g7
        go_wp2_with (first
          | refine wpList_load_row rfl 78 (.tmp 4) rfl gT rfl 78 (IV .u8 OUT).toArray (0, 0) _ KT7.out Tryd.underlying78 rfl (by rw [SOUT.out]; exact I16.out) ?_
          | refine wpList_store_row rfl 78 (.tmp 2) (.tmp 23) rfl gO (IV .u8 OUT).toArray rfl rfl 78 _ KO7.out (by rw [SOUT.out]; exact I16.out) (by rw [SOUT.out]; rfl) AOUT.out ?_)
        refine bodyPost_ret (v := .agg (IV .u8 OUT).toArray) (results_cell_row rfl _ _ gO 78 _ (0, 0) _ rfl (Blk.row KO7.out _) Tryd.underlying78 rfl (by rw [SOUT.out]; exact I16.out)) rfl ⟨rfl, ?_⟩
        rw [← HGO.out]
        exact below_setRow BW7.out (Nat.le_refl _) _
end Go.Proofs.YtjibbegdieiknaaDoor

/-
  Words out of a row of bytes that is read, and what a message adds to the authenticator.
-/
namespace Go.Proofs.YtjibbegdieiknaaDoor
open Go.RowKit
set_option linter.unusedVariables false

theorem word_rd {w : World} {g off : Nat} {l : List Int} (hr : Rd w (some ⟨g, off, none⟩) l) (hB : Bytes l) (o n c : Nat) (hn : 4 ≤ n) (hm : n ≤ 9223372036854775807) (hl : o + 4 ≤ l.length) :
    Calls Tryd.prog 59 #[.slice (some ⟨g, off + o, none⟩) n c] w fun e w' => e = .returned (.int .u32 (w4 l o)) ∧ ∃ k, w' = w.drewN k := by
  have get : ∀ i, i < 4 → w.cell? ⟨g, off + o + i, none⟩ = some (.int .u8 (l.getD (o + i) 0)) := fun i hi => by
    have h := hr.cell (j := o + i) (x := l.getD (o + i) 0) (by rw [List.getD_eq_getElem?_getD, List.getElem?_eq_getElem (show o + i < l.length by omega)]; rfl)
    rw [Nat.add_assoc]
    exact h
  have h0 := get 0 (by omega)
  rw [Nat.add_zero] at h0
  exact word32_any g (off + o) n c _ _ _ _ w hn hm h0 (get 1 (by omega)) (get 2 (by omega)) (get 3 (by omega)) (getD_byte hB _) (getD_byte hB _) (getD_byte hB _) (getD_byte hB _)
theorem rd_heap {w W : World} (h : W.heap = w.heap) {A : Option Addr} {l : List Int} (hr : Rd w A l) : Rd W A l := by
  have k : Reads w w.heap.size 1 A l.length (U8 l) := hr
  have k' : Reads W w.heap.size 1 A l.length (U8 l) := k.keep fun p hp => by unfold World.cell? ; rw [h]
  exact k'.more (by rw [h]; exact Nat.le_refl _)
theorem word64_rd {w : World} {g off : Nat} {l : List Int} (hr : Rd w (some ⟨g, off, none⟩) l) (hB : Bytes l) (o n c : Nat) (hn : 8 ≤ n) (hc : n ≤ c) (hm : c ≤ 9223372036854775807) (hl : o + 8 ≤ l.length) :
    Calls Tryd.prog 75 #[.slice (some ⟨g, off + o, none⟩) n c] w fun e w' => e = .returned (.int .u64 (w8 l o)) ∧ ∃ k, w' = w.drewN k :=
  word64_any g (off + o) n c _ _ w hn hc hm (w4_ok hB _) (w4_ok hB _)
    (fun W hW => word_rd (rd_heap hW hr) hB o n c (by omega) (by omega) (by omega))
    (fun W hW => by rw [Nat.add_assoc]; exact word_rd (rd_heap hW hr) hB (o + 4) (n - 4) (c - 4) (by omega) (by omega) (by omega))

/-- A block of sixteen bytes at a place, as a number. -/
def blkN (l : List Int) (o : Nat) : Nat := (w8 l o).toNat + (w8 l (o + 8)).toNat * 18446744073709551616
/-- The accumulator behind k whole blocks of a message. -/
def absB (r acc : Nat) (l : List Int) : Nat → Nat
  | 0 => acc
  | k + 1 => (absB r acc l k + (blkN l (16 * k) + 340282366920938463463374607431768211456)) * r
/-- The last block of a message that does not fill it. -/
def lastB (l : List Int) : List Int := l ++ 1 :: List.replicate (15 - l.length) 0
/-- The accumulator behind a whole message. -/
def absorb (r acc : Nat) (l : List Int) : Nat :=
  if l.length % 16 = 0 then absB r acc l (l.length / 16) else (absB r acc l (l.length / 16) + blkN (lastB (l.drop (16 * (l.length / 16)))) 0) * r
theorem w8_drop (l : List Int) (k o : Nat) : w8 (l.drop k) o = w8 l (k + o) := by
  simp only [w8, w4, List.getD_eq_getElem?_getD, List.getElem?_drop, Nat.add_assoc]
theorem w8_nat {l : List Int} (hB : Bytes l) (o : Nat) : ((w8 l o).toNat : Int) = w8 l o ∧ (w8 l o).toNat < 18446744073709551616 := by
  have h := w8_ok hB o
  omega
end Go.Proofs.YtjibbegdieiknaaDoor

namespace Go.Proofs.YtjibbegdieiknaaDoor
open Go.RowKit
set_option linter.unusedVariables false
set_option linter.unusedSimpArgs false

theorem rd_far {w w' : World} {b off ga : Nat} {l : List Int} (h : Rd w (some ⟨b, off, none⟩) l) (hg : w.grownBy w' (some ga)) (hne : b ≠ ga) : Rd w' (some ⟨b, off, none⟩) l := by
  refine ⟨h.1, fun hn => ?_⟩
  obtain ⟨ad, e, hb, hc⟩ := h.2 hn
  refine ⟨ad, e, Nat.lt_of_lt_of_le hb hg.size, fun j u hu => ?_⟩
  injection e with e
  have hk := hg.block b (by rw [← e] at hb; exact hb) (by simp [hne])
  have hcc := hc j u hu
  have eb : (ad.add j).block = b := by rw [block_of_add, ← e]
  unfold World.cell? at hcc ⊢
  rw [eb] at hcc ⊢
  rw [hk]
  exact hcc
theorem slice_k (b o L c k : Nat) (hk : k ≤ L) (hc : L ≤ c) : ∃ A2 : Option Addr, (k < L → A2 = some ⟨b, o + k, none⟩) ∧
    ∀ W : World, (Instr.slice 23 (.slice (some ⟨b, o, none⟩) L c) (some (.int .i64 (k : Int))) none none).run Tryd.prog W = .ok (.slice A2 (L - k) (c - k)) W := by
  refine ⟨if c = k then some ⟨b, o, none⟩ else some ((⟨b, o, none⟩ : Addr).add k), fun h => ?_, fun W => ?_⟩
  · rw [if_neg (by omega)]
    unfold Addr.add
    by_cases h0 : k = 0 <;> simp [h0]
  · rw [run_slice_l (P := Tryd.prog) W 23 (some ⟨b, o, none⟩) L c (by rw [elem_u8]; exact Tryd.underlying23) .i64 (k : Int) (by omega) (by omega), elem_u8]
    rw [run_sizeOf_u8]
    simp only [Result.andThen_ok, sliced, Int.toNat_natCast, Nat.mul_one]
    by_cases h : c = k <;> simp [h]
end Go.Proofs.YtjibbegdieiknaaDoor

namespace Go.Proofs.YtjibbegdieiknaaDoor
set_option maxRecDepth 100000
open Go.RowKit
set_option linter.unusedVariables false
set_option linter.unusedSimpArgs false

theorem rd_at {w : World} {b off : Nat} {l : List Int} (h : Rd w (some ⟨b, off, none⟩) l) (q : Nat) (hq : q ≤ l.length) : Rd w (some ⟨b, off + q, none⟩) (l.drop q) := by
  have k := h.cut hq (cap := l.length + 1) (by omega)
  rw [if_neg (by omega), Nat.mul_one] at k
  unfold Addr.add at k
  by_cases h0 : q = 0
  · subst h0; simpa using k
  · simpa [h0] using k
theorem slice_arr16z (g : Nat) (w : World) :
    (Instr.sliceAt 78 (.pointer (some ⟨g, 0, none⟩)) none none none).run Tryd.prog w = .ok (.slice (some ⟨g, 0, none⟩) 16 16) w := by
  rw [run_sliceAt_array_all (P := Tryd.prog) w 78 ⟨g, 0, none⟩ (by rw [arr16_len, arr16_elem]; exact Tryd.underlying78), arr16_elem, run_sizeOf_u8, arr16_len]
  simp [slicedAt, Addr.add]
theorem Au.below {w w' : World} {B ga acc f0 f1 z0 z1 : Nat} (h : Au w ga acc f0 f1 z0 z1) (hb : Below B w w') (hg : ga < B) : Au w' ga acc f0 f1 z0 z1 := by
  obtain ⟨s0, s1, s2, k, r⟩ := h.words
  exact ⟨s0, s1, s2, k.below hb hg, r⟩
theorem last_list (rest : List Int) (h : rest.length < 16) : ((rest ++ List.replicate (16 - rest.length) 0).set rest.length 1) = lastB rest := by
  rw [List.set_append_right _ _ (Nat.le_refl _), Nat.sub_self, lastB, show 16 - rest.length = (15 - rest.length) + 1 by omega, List.replicate_succ, List.set_cons_zero]
theorem splice16 (rest : List Int) (h : rest.length < 16) : splice (IV .u8 (List.replicate 16 0)) 0 (IV .u8 rest) = IV .u8 (rest ++ List.replicate (16 - rest.length) 0) := by
  unfold splice
  rw [IV_append, IV_length, Nat.zero_add]
  simp only [IV, List.take_zero, List.nil_append, ← List.map_drop, List.drop_replicate]
theorem lastB_length (rest : List Int) (h : rest.length < 16) : (lastB rest).length = 16 := by simp [lastB]; omega
theorem lastB_bytes {rest : List Int} (h : Bytes rest) : Bytes (lastB rest) := by
  intro x hx
  simp only [lastB, List.mem_append, List.mem_cons, List.mem_replicate] at hx
  rcases hx with hx | rfl | ⟨_, rfl⟩
  · exact h x hx
  · omega
  · omega

set_option maxHeartbeats 1600000 in
theorem auWrite_any (ga acc f0 f1 z0 z1 b off c : Nat) (l : List Int) (w : World) (ha : Au w ga acc f0 f1 z0 z1) (hr : Rd w (some ⟨b, off, none⟩) l) (hne : b ≠ ga) (hB : Bytes l) (hc : l.length ≤ c) (hm : c ≤ 9223372036854775807)
    (h3 : f0 < 1152921504606846976) (h4 : f1 < 1152921504606846976) :
    Calls Tryd.prog 57 #[.pointer (some ⟨ga, 0, none⟩), .slice (some ⟨b, off, none⟩) l.length c] w fun e w' =>
      e = .returned (.tuple #[]) ∧ Au w' ga (absorb (f0 + f1 * 18446744073709551616) acc l) f0 f1 z0 z1 ∧ w.grownBy w' (some ga) := by
  have HA := Lib.hid ha
  have HR := Lib.hid hr
  have HBy := Lib.hid hB
  clear ha hr hB
  obtain ⟨R, hR⟩ : ∃ R, R = f0 + f1 * 18446744073709551616 := ⟨_, rfl⟩
  have HRR := Lib.hid hR
  rw [← hR]
  clear hR
  go_enter Tryd.func57, Tryd.ntmps57
  go_wp2_with fail
  go_loopw [1] (fun p wr => ∃ (k q : Nat) (A : Option Addr) (c1 : Nat), q = 16 * k ∧ q ≤ l.length ∧ p = .slice A (l.length - q) c1 ∧ l.length - q ≤ c1 ∧ c1 ≤ c ∧ (0 < l.length - q → A = some ⟨b, off + q, none⟩) ∧ Au wr ga (absB R acc l k) f0 f1 z0 z1 ∧ w.grownBy wr (some ga)) (fun p _ => match p with | .slice _ n _ => n | _ => 0)
  case atStart =>
    exact ⟨0, 0, some ⟨b, off, none⟩, c, rfl, Nat.zero_le _, rfl, hc, Nat.le_refl _, fun _ => rfl, HA.out, World.grownBy.refl w _⟩
  case round =>
    obtain ⟨k, q, A, c1, hq, hql, rfl, hc1, hc2, hA, au, og⟩ := hrel
    obtain ⟨L1, hL1⟩ : ∃ L1, L1 = l.length - q := ⟨_, rfl⟩
    rw [← hL1] at hA hc1 ⊢
    have AU := Lib.hid au
    have OG := Lib.hid og
    have HL1 := Lib.hid hL1
    have HQ := Lib.hid hq
    have RD := Lib.hid (rd_far HR.out og hne)
    clear au og
    by_cases hbig : 16 ≤ L1
    · obtain rfl := hA (by omega)
      have hz : (16 : Int) ≤ (L1 : Int) := by omega
      have hn0 := w8_nat HBy.out q
      have hn1 := w8_nat HBy.out (q + 8)
      obtain ⟨x0, hx0⟩ : ∃ x, x = (w8 l q).toNat := ⟨_, rfl⟩
      obtain ⟨x1, hx1⟩ : ∃ x, x = (w8 l (q + 8)).toNat := ⟨_, rfl⟩
      have hblk : blkN l (16 * k) = x0 + x1 * 18446744073709551616 := by rw [← hq, hx0, hx1]; rfl
      have HBLK := Lib.hid hblk
      rw [← hx0] at hn0
      rw [← hx1] at hn1
      have C0 : Calls Tryd.prog 75 #[.slice (some ⟨b, off + q, none⟩) L1 c1] wr.drew fun e w' => e = .returned (.int .u64 (x0 : Int)) ∧ ∃ k, w' = wr.drew.drewN k := by
        have h := word64_rd RD.out.drew HBy.out q L1 c1 (by omega) hc1 (by omega) (by omega)
        rw [← hn0.1] at h
        exact h
      have C1 : ∀ n, Calls Tryd.prog 75 #[.slice (some ⟨b, off + q + 8, none⟩) (L1 - 8) (c1 - 8)] (wr.drewN n) fun e w' => e = .returned (.int .u64 (x1 : Int)) ∧ ∃ k, w' = (wr.drewN n).drewN k := fun n => by
        have h := word64_rd (RD.out.drewN n) HBy.out (q + 8) (L1 - 8) (c1 - 8) (by omega) (by omega) (by omega) (by omega)
        rw [← hn1.1, ← Nat.add_assoc] at h
        exact h
      have H0 := Lib.hid C0
      have H1 := Lib.hid C1
      have CA := Lib.hid (fun n => (show Calls Tryd.prog 76 #[.pointer (some ⟨ga, 0, none⟩), .agg #[.int .u64 x0, .int .u64 x1, .int .u64 1]] (wr.drewN n) _ from add_au ga _ f0 f1 z0 z1 x0 x1 1 (wr.drewN n) ⟨AU.out.words⟩ hn0.2 hn1.2 (by omega) h3 h4))
      obtain ⟨A8, hA8, s8⟩ := slice_k b (off + q) L1 c1 8 (by omega) hc1
      obtain rfl := hA8 (by omega)
      obtain ⟨A16, hA16, s16⟩ := slice_k b (off + q) L1 c1 16 (by omega) hc1
      have HA16 := Lib.hid hA16
      rw [show ((8 : Nat) : Int) = 8 from rfl] at s8
      rw [show ((16 : Nat) : Int) = 16 from rfl] at s16
      clear C0 C1 hn0 hn1 hx0 hx1 hblk hA8 hA16 hA hq hL1
      go_upto_region 1 with (fail)
      go_region_with (first
        | (go_at_call 75
           (with_reducible refine H0.out.mono ?_)
           rintro e wa ⟨rfl, k1, rfl⟩)
        | (go_at_call 75
           (with_reducible refine (H1.out _).mono ?_)
           rintro e wb ⟨rfl, k2, rfl⟩)
        | (go_at_call 76
           (with_reducible refine (CA.out _).mono ?_)
           rintro e wc ⟨rfl, au2, g2⟩))
      all_goals
        rw [← HRR.out, show x0 + x1 * 18446744073709551616 + 1 * 340282366920938463463374607431768211456 = blkN l (16 * k) + 340282366920938463463374607431768211456 by rw [HBLK.out]] at au2
        have AU2 := Lib.hid (show Au wc ga (absB R acc l (k + 1)) f0 f1 z0 z1 from au2)
        have OG2 := Lib.hid (only_trans (only_drewN OG.out (1 + k1 + k2)) g2)
        clear au2 g2
        go_wp2_with fail
        go_roundw
        case rel => exact ⟨k + 1, q + 16, A16, c1 - 16, by have := HQ.out; omega, by have := HL1.out; omega, by rw [show l.length - (q + 16) = L1 - 16 by have := HL1.out; omega], by have := HL1.out; omega, by omega, fun h => by rw [HA16.out (by have := HL1.out; omega), Nat.add_assoc], AU2.out, OG2.out⟩
        case measure => simp [intOf]; omega
    · have hz : ¬ (16 : Int) ≤ (L1 : Int) := by omega
      have hk : k = l.length / 16 := by omega
      have hL : L1 = l.length % 16 := by omega
      by_cases h0 : L1 = 0
      · have hfin : absorb R acc l = absB R acc l k := by rw [absorb, if_pos (by omega), ← hk]
        have AF := Lib.hid (show Au wr ga (absorb R acc l) f0 f1 z0 z1 by rw [hfin]; exact AU.out)
        have hl0 : ¬ (0 : Int) < (L1 : Int) := by omega
        clear hfin hq hL1 hk hL
        go_wp2_with fail
        exact bodyPost_end (v := .tuple #[]) (results_none (by rfl) _ _ _) (by rfl) ⟨rfl, AF.out, OG.out⟩
      · have hl1 : (0 : Int) < (L1 : Int) := by omega
        obtain rfl := hA (by omega)
        obtain ⟨rest, hrest⟩ : ∃ r, r = l.drop q := ⟨_, rfl⟩
        have hrl : rest.length = L1 := by rw [hrest, List.length_drop]; omega
        have hrb : Bytes rest := by rw [hrest]; exact fun x hx => HBy.out x (List.mem_of_mem_drop hx)
        have RR := Lib.hid (show Rd wr (some ⟨b, off + q, none⟩) rest by rw [hrest]; exact rd_at RD.out q hql)
        have hfin : absorb R acc l = (absB R acc l k + blkN (lastB rest) 0) * R := by rw [absorb, if_neg (by omega), ← hk, ← hq, hrest]
        have HFIN := Lib.hid hfin
        obtain ⟨LB, hLB⟩ : ∃ LB, LB = lastB rest := ⟨_, rfl⟩
        have hLl : LB.length = 16 := by rw [hLB]; exact lastB_length rest (by omega)
        have hLbb : Bytes LB := by rw [hLB]; exact lastB_bytes hrb
        have hset : (rest ++ List.replicate (16 - rest.length) 0).set L1 1 = LB := by rw [hLB, ← hrl]; exact last_list rest (by omega)
        have HSET := Lib.hid hset
        have HLB := Lib.hid hLB
        have HRL := Lib.hid hrl
        have eln : (IV IntKind.u8 rest).length = L1 := by rw [IV_length]; exact hrl
        have hL16 : (L1 : Int) < 16 := by omega
        obtain ⟨x0, hx0⟩ : ∃ x, x = (w8 LB 0).toNat := ⟨_, rfl⟩
        obtain ⟨x1, hx1⟩ : ∃ x, x = (w8 LB 8).toNat := ⟨_, rfl⟩
        have hn0 := w8_nat hLbb 0
        have hn1 := w8_nat hLbb 8
        have hblk : blkN LB 0 = x0 + x1 * 18446744073709551616 := by rw [hx0, hx1]; rfl
        have HBLK := Lib.hid hblk
        rw [← hx0] at hn0
        rw [← hx1] at hn1
        have hgaw : ga < wr.heap.size := by obtain ⟨_, _, _, hb, _⟩ := AU.out.words; exact hb.lt
        clear hq hL1 hA hk hL hrest hrb hfin hLB hset hrl hx0 hx1 hblk
        go_wp2_with (refine wpList_copy_splice rfl (.tmp 21) (.tmp 22) 23 23 rfl 5 rfl rfl _ _ 16 16 L1 c1 rfl rfl wr.heap.size 0 (IV .u8 (List.replicate 16 0)) 78 (Blk.new wr _ _) (IV .u8 rest) (by rw [eln]; exact (Nat.min_eq_left (by omega)).symm) (fun hn => ⟨rfl, (by
            obtain ⟨ad, e, _, hc⟩ := (RR.out.alloc _).2 (by simpa [IV] using hn)
            exact ⟨ad, e, hc⟩)⟩) (by rw [eln, IV_length]; simp; omega) (IV_oneCell _ _) wr.heap.size wr ((Below.refl _ _).alloc (Nat.le_refl _) _) (Nat.le_refl _) ?_
                     rw [eln]
                     intro w3 h3 b3
                     have H3 := Lib.hid (show Blk w3 wr.heap.size 78 (IV .u8 (rest ++ List.replicate (16 - rest.length) 0)).toArray from (by have h := h3.out; rw [splice16 rest (by have := HRL.out; omega)] at h; exact h))
                     have B3 := Lib.hid b3
                     have f3 := H3.out.frozen L1
                     obtain ⟨y3, c3⟩ : ∃ y, w3.cell? ⟨wr.heap.size, L1, none⟩ = some (.int .u8 y) := ⟨_, H3.out.cell_i (List.getElem?_eq_getElem (show L1 < (rest ++ List.replicate (16 - rest.length) 0).length by have := HRL.out; simp; omega))⟩
                     clear h3 b3)
        have k4 := H3.out.store_i L1 1
        rw [HSET.out] at k4
        have b4 := B3.out.setCell (p := ⟨wr.heap.size, L1, none⟩) (Nat.le_refl _) (.int .u8 1)
        generalize w3.setCell ⟨wr.heap.size, L1, none⟩ (.int .u8 1) = w4 at k4 b4 ⊢
        have au4 := AU.out.below b4 hgaw
        have OG4 := Lib.hid (only_trans OG.out (only_of_below b4 (some ga)))
        have D0 := Lib.hid (show Calls Tryd.prog 75 #[.slice (some ⟨wr.heap.size, 0, none⟩) 16 16] w4.drew fun e w' => e = .returned (.int .u64 (x0 : Int)) ∧ ∃ k, w' = w4.drew.drewN k by
          have h := word64_of k4.drew hLbb 0 16 16 (by omega) (by omega) (by omega) (by omega)
          rw [← hn0.1] at h
          exact h)
        have D1 := Lib.hid (show ∀ n, Calls Tryd.prog 75 #[.slice (some ⟨wr.heap.size, 8, none⟩) 8 8] (w4.drewN n) fun e w' => e = .returned (.int .u64 (x1 : Int)) ∧ ∃ k, w' = (w4.drewN n).drewN k from fun n => by
          have h := word64_of (k4.drewN n) hLbb 8 8 8 (by omega) (by omega) (by omega) (by omega)
          rw [← hn1.1] at h
          exact h)
        have CA := Lib.hid (fun n => (show Calls Tryd.prog 76 #[.pointer (some ⟨ga, 0, none⟩), .agg #[.int .u64 x0, .int .u64 x1, .int .u64 0]] (w4.drewN n) _ from add_au ga _ f0 f1 z0 z1 x0 x1 0 (w4.drewN n) ⟨au4.words⟩ hn0.2 hn1.2 (by omega) h3 h4))
        have sz := slice_arr16z wr.heap.size
        have s8 := slice_arr16_from8 wr.heap.size
        clear k4 b4 au4 hn0 hn1 f3 c3 hl1 hL16 eln hLbb hLl
        go_region_with (first
          | (go_at_call 75
             (with_reducible refine D0.out.mono ?_)
             rintro e wa ⟨rfl, k1, rfl⟩)
          | (go_at_call 75
             (with_reducible refine (D1.out _).mono ?_)
             rintro e wb ⟨rfl, k2, rfl⟩)
          | (go_at_call 76
             (with_reducible refine (CA.out _).mono ?_)
             rintro e wc ⟨rfl, au2, g2⟩))
        all_goals
          rw [← HRR.out, show x0 + x1 * 18446744073709551616 + 0 * 340282366920938463463374607431768211456 = blkN (lastB rest) 0 by rw [← HLB.out, HBLK.out]; omega, ← HFIN.out] at au2
          have AU2 := Lib.hid au2
          have OG2 := Lib.hid (only_trans (only_drewN OG4.out (1 + k1 + k2)) g2)
          clear au2 g2
          go_wp2_with fail
          exact bodyPost_end (v := .tuple #[]) (results_none (by rfl) _ _ _) (by rfl) ⟨rfl, AU2.out, OG2.out⟩
end Go.Proofs.YtjibbegdieiknaaDoor
