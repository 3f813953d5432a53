import Derived.Test.YtpedajjmbdjfiaaPolyB
import Derived.Deep.RegionHeld3
import Derived.Deep.DeepCutAuto
namespace Go.Proofs.Ytpedajjmbdjfiaa
open Go.RowKit
set_option linter.unusedVariables false
set_option linter.unusedSimpArgs false

theorem mul_expand (x0 x1 x2 y0 y1 M : Nat) : (x0 + x1 * M + x2 * (M * M)) * (y0 + y1 * M) = x0 * y0 + (x1 * y0 + x0 * y1) * M + (x2 * y0 + x1 * y1) * (M * M) + x2 * y1 * (M * M * M) := by
  simp only [Nat.mul_add, Nat.mul_comm, Nat.mul_left_comm, Nat.add_assoc, Nat.add_comm, Nat.add_left_comm]
/-- The four words of a product of three words and two. -/
theorem words_val (p00 p10 p01 p20 p11 p21 l1 h1 l2 h2 t1 t2 t3 c0 c1 c2 c3 : Nat)
    (a1 : l1 + 18446744073709551616 * c0 = p10 % 18446744073709551616 + p01 % 18446744073709551616) (b1 : h1 = p10 / 18446744073709551616 + p01 / 18446744073709551616 + c0)
    (a2 : l2 + 18446744073709551616 * c3 = p20 % 18446744073709551616 + p11 % 18446744073709551616) (b2 : h2 = p20 / 18446744073709551616 + p11 / 18446744073709551616 + c3)
    (d1 : t1 + 18446744073709551616 * c1 = p00 / 18446744073709551616 + l1) (d2 : t2 + 18446744073709551616 * c2 = h1 + l2 + c1) (d3 : t3 = h2 + p21 + c2) :
    p00 % 18446744073709551616 + t1 * 18446744073709551616 + t2 * 340282366920938463463374607431768211456 + t3 * 6277101735386680763835789423207666416102355444464034512896 = p00 + (p10 + p01) * 18446744073709551616 + (p20 + p11) * 340282366920938463463374607431768211456 + p21 * 6277101735386680763835789423207666416102355444464034512896 := by
  have e0 := Nat.mod_add_div p00 18446744073709551616
  have e1 := Nat.mod_add_div p10 18446744073709551616
  have e2 := Nat.mod_add_div p01 18446744073709551616
  have e3 := Nat.mod_add_div p20 18446744073709551616
  have e4 := Nat.mod_add_div p11 18446744073709551616
  generalize p00 % 18446744073709551616 = r0 at *
  generalize p10 % 18446744073709551616 = r1 at *
  generalize p01 % 18446744073709551616 = r2 at *
  generalize p20 % 18446744073709551616 = r3 at *
  generalize p11 % 18446744073709551616 = r4 at *
  generalize p00 / 18446744073709551616 = s0 at *
  generalize p10 / 18446744073709551616 = s1 at *
  generalize p01 / 18446744073709551616 = s2 at *
  generalize p20 / 18446744073709551616 = s3 at *
  generalize p11 / 18446744073709551616 = s4 at *
  subst b1 b2 d3
  rw [← e0, ← e1, ← e2, ← e3, ← e4]
  omega
/-- Two words, and what they say. -/
theorem two_words (a b v : Nat) (ha : a < 18446744073709551616) (hb : b < 18446744073709551616) (c d : Nat) (h : a + b * 18446744073709551616 + c * 340282366920938463463374607431768211456 + d * 6277101735386680763835789423207666416102355444464034512896 = v) :
    v % 340282366920938463463374607431768211456 = a + b * 18446744073709551616 ∧ v / 340282366920938463463374607431768211456 = c + d * 18446744073709551616 := by omega
theorem t3_lt (t3 x0 x1 x2 y0 y1 v r : Nat) (h0 : x0 < 18446744073709551616) (h1 : x1 < 18446744073709551616) (h2 : x2 ≤ 7) (h3 : y0 < 1152921504606846976) (h4 : y1 < 1152921504606846976)
    (hv : r + t3 * 6277101735386680763835789423207666416102355444464034512896 = (x0 + x1 * 18446744073709551616 + x2 * 340282366920938463463374607431768211456) * (y0 + y1 * 18446744073709551616)) : t3 < 9223372036854775808 := by
  have hx : x0 + x1 * 18446744073709551616 + x2 * 340282366920938463463374607431768211456 ≤ 2722258935367507707706996859454145691647 := by omega
  have hy : y0 + y1 * 18446744073709551616 ≤ 21267647932558653966460912964485513215 := by omega
  have h := Nat.mul_le_mul hx hy
  rw [← hv] at h
  omega

theorem sum3_lt {a b k y0 y1 : Nat} (h1 : a ≤ y0) (h2 : b ≤ y1) (h3 : k ≤ 1) (h4 : y0 < 1152921504606846976) (h5 : y1 < 1152921504606846976) : a + b + k < 18446744073709551616 := by omega
theorem sum5_lt {a b k p c y0 y1 : Nat} (h1 : a ≤ y0) (h2 : b ≤ y1) (h3 : k ≤ 1) (h6 : p ≤ 7 * y1) (h7 : c ≤ 1) (h4 : y0 < 1152921504606846976) (h5 : y1 < 1152921504606846976) : a + b + k + p + c < 18446744073709551616 := by omega
theorem hi_le {x y : Nat} (hx : x < 18446744073709551616) : x * y / 18446744073709551616 ≤ y :=
  Nat.div_le_of_le_mul (Nat.mul_le_mul (Nat.le_of_lt hx) (Nat.le_refl y))
theorem times_val (x0 x1 x2 y0 y1 l00 g00 l10 g10 l01 g01 L1 H1 l20 g20 l11 g11 L2 H2 p21 t1 c1 t2 c2 t3 v : Nat) (h0 : x0 < 18446744073709551616) (h1 : x1 < 18446744073709551616) (h2 : x2 ≤ 7) (h3 : y0 < 1152921504606846976) (h4 : y1 < 1152921504606846976)
    (hv : v = (x0 + x1 * 18446744073709551616 + x2 * 340282366920938463463374607431768211456) * (y0 + y1 * 18446744073709551616))
    (q1 : l00 = x0 * y0 % 18446744073709551616) (q2 : g00 = x0 * y0 / 18446744073709551616) (q3 : l10 = x1 * y0 % 18446744073709551616) (q4 : g10 = x1 * y0 / 18446744073709551616) (q5 : l01 = x0 * y1 % 18446744073709551616) (q6 : g01 = x0 * y1 / 18446744073709551616)
    (q7 : L1 = (l10 + l01) % 18446744073709551616) (q8 : H1 = (g10 + g01 + (l10 + l01) / 18446744073709551616) % 18446744073709551616)
    (r3 : l20 = x2 * y0 % 18446744073709551616) (r4 : g20 = x2 * y0 / 18446744073709551616) (r5 : l11 = x1 * y1 % 18446744073709551616) (r6 : g11 = x1 * y1 / 18446744073709551616)
    (r7 : L2 = (l20 + l11) % 18446744073709551616) (r8 : H2 = (g20 + g11 + (l20 + l11) / 18446744073709551616) % 18446744073709551616) (hp : p21 = x2 * y1)
    (d1 : t1 = (g00 + L1) % 18446744073709551616) (d2 : c1 = (g00 + L1) / 18446744073709551616) (d3 : t2 = (H1 + L2 + c1) % 18446744073709551616) (d4 : c2 = (H1 + L2 + c1) / 18446744073709551616) (d5 : t3 = (H2 + p21 + c2) % 18446744073709551616) :
    t3 < 9223372036854775808 ∧ v % 340282366920938463463374607431768211456 = l00 + t1 * 18446744073709551616 ∧ v / 340282366920938463463374607431768211456 = t2 + t3 * 18446744073709551616 := by
  have hx2 : x2 < 18446744073709551616 := Nat.lt_of_le_of_lt h2 (by decide)
  have u1 : g10 ≤ y0 := q4 ▸ hi_le h1
  have u2 : g01 ≤ y1 := q6 ▸ hi_le h0
  have u3 : g20 ≤ y0 := r4 ▸ hi_le hx2
  have u4 : g11 ≤ y1 := r6 ▸ hi_le h1
  have u5 : p21 ≤ 7 * y1 := hp ▸ Nat.mul_le_mul h2 (Nat.le_refl _)
  have m1 : l10 < 18446744073709551616 := q3 ▸ m64_lt _
  have m2 : l01 < 18446744073709551616 := q5 ▸ m64_lt _
  have m3 : l20 < 18446744073709551616 := r3 ▸ m64_lt _
  have m4 : l11 < 18446744073709551616 := r5 ▸ m64_lt _
  have k1 : (l10 + l01) / 18446744073709551616 ≤ 1 := carry_le0 m1 m2
  have k2 : (l20 + l11) / 18446744073709551616 ≤ 1 := carry_le0 m3 m4
  have eH1 : H1 = g10 + g01 + (l10 + l01) / 18446744073709551616 := by rw [q8]; exact Nat.mod_eq_of_lt (sum3_lt u1 u2 k1 h3 h4)
  have eH2 : H2 = g20 + g11 + (l20 + l11) / 18446744073709551616 := by rw [r8]; exact Nat.mod_eq_of_lt (sum3_lt u3 u4 k2 h3 h4)
  have mH1 : H1 < 18446744073709551616 := q8 ▸ m64_lt _
  have mL2 : L2 < 18446744073709551616 := r7 ▸ m64_lt _
  have mL1 : L1 < 18446744073709551616 := q7 ▸ m64_lt _
  have ml00 : l00 < 18446744073709551616 := q1 ▸ m64_lt _
  have mt1 : t1 < 18446744073709551616 := d1 ▸ m64_lt _
  have mg00 : g00 < 18446744073709551616 := by have : g00 ≤ y0 := q2 ▸ hi_le h0; exact Nat.lt_of_le_of_lt this (Nat.lt_trans h3 (by decide))
  have kc1 : c1 ≤ 1 := d2 ▸ carry_le0 mg00 mL1
  have kc2 : c2 ≤ 1 := d4 ▸ carry_le mH1 mL2 kc1
  have et3 : t3 = H2 + p21 + c2 := by rw [d5]; exact Nat.mod_eq_of_lt (by rw [eH2]; exact sum5_lt u3 u4 k2 u5 kc2 h3 h4)
  have W := words_val (x0 * y0) (x1 * y0) (x0 * y1) (x2 * y0) (x1 * y1) p21 L1 H1 L2 H2 t1 t2 t3 ((l10 + l01) / 18446744073709551616) c1 c2 ((l20 + l11) / 18446744073709551616)
    (by rw [← q3, ← q5, q7]; exact Nat.mod_add_div _ _) (by rw [← q4, ← q6]; exact eH1) (by rw [← r3, ← r5, r7]; exact Nat.mod_add_div _ _) (by rw [← r4, ← r6]; exact eH2)
    (by rw [← q2, d1, d2]; exact Nat.mod_add_div _ _) (by rw [d3, d4]; exact Nat.mod_add_div _ _) et3
  have X := mul_expand x0 x1 x2 y0 y1 18446744073709551616
  rw [show (18446744073709551616 * 18446744073709551616 : Nat) = 340282366920938463463374607431768211456 from rfl, show (340282366920938463463374607431768211456 * 18446744073709551616 : Nat) = 6277101735386680763835789423207666416102355444464034512896 from rfl, ← hv, ← hp, ← W, ← q1] at X
  have ht3 := t3_lt t3 x0 x1 x2 y0 y1 v (l00 + t1 * 18446744073709551616 + t2 * 340282366920938463463374607431768211456) h0 h1 h2 h3 h4 (by rw [← hv]; exact X.symm)
  exact ⟨ht3, two_words l00 t1 v ml00 mt1 t2 t3 X.symm⟩
theorem mod4_word (a b : Nat) : (a + b * 18446744073709551616) % 4 = a % 4 := by omega

/-- Two words, out of 'plus'. -/
theorem h1_lt {a b k : Nat} (ha : a < 1329227995784915872903807060280344576) (hb : b < 1329227995784915872903807060280344576 * 16) (hk : k ≤ 1) : a / 18446744073709551616 + b / 18446744073709551616 + k < 18446744073709551616 := by omega

set_option maxRecDepth 100000 in
set_option maxHeartbeats 1600000 in
theorem times_any (x0 x1 x2 y0 y1 : Nat) (h0 : x0 < 18446744073709551616) (h1 : x1 < 18446744073709551616) (h2 : x2 ≤ 7) (h3 : y0 < 1152921504606846976) (h4 : y1 < 1152921504606846976) (v : Nat) (hv : v = (x0 + x1 * 18446744073709551616 + x2 * 340282366920938463463374607431768211456) * (y0 + y1 * 18446744073709551616)) (w : World) :
    Calls Try.prog 48 #[.agg #[.int .u64 x0, .int .u64 x1, .int .u64 x2], .agg #[.int .u64 y0, .int .u64 y1]] w fun e w' => ∃ n0 n1 n2 : Nat,
      e = .returned (.agg #[.int .u64 n0, .int .u64 n1, .int .u64 n2]) ∧ n0 < 18446744073709551616 ∧ n1 < 18446744073709551616 ∧
      n0 + n1 * 18446744073709551616 + n2 * 340282366920938463463374607431768211456 = v % 340282366920938463463374607431768211456 + 5 * (v / 340282366920938463463374607431768211456 / 4) + v / 340282366920938463463374607431768211456 % 4 * 340282366920938463463374607431768211456 ∧ Below w.heap.size w w' := by
  have P00 := Lib.hid (fun W => product_any x0 y0 h0 (by omega) W)
  have P10 := Lib.hid (fun W => product_any x1 y0 h1 (by omega) W)
  have P01 := Lib.hid (fun W => product_any x0 y1 h0 (by omega) W)
  have P20 := Lib.hid (fun W => product_any x2 y0 (by omega) (by omega) W)
  have P11 := Lib.hid (fun W => product_any x1 y1 h1 (by omega) W)
  go_enter Try.func48, Try.ntmps48
  go_wp2_with fail
  refine (P00.out _).mono ?_
  rintro e w1 ⟨rfl, b1⟩
  have bw : Below w.heap.size w w1 := ((((Below.refl _ _).alloc (Nat.le_refl _) _).alloc (by simp) _).alloc (by simp; omega) _).trans (b1.mono (by simp; omega))
  have k0 : Blk w1 w.heap.size 74 #[.int .u64 x0, .int .u64 x1, .int .u64 x2] := (((Blk.new w _ _).alloc _).alloc _).below b1 (by simp <;> omega)
  have k1 : Blk w1 (w.heap.size + 1) 72 #[.int .u64 y0, .int .u64 y1] := ((blk_second w _ _ _).alloc _).below b1 (by simp <;> omega)
  have k2 : Blk w1 (w.heap.size + 1 + 1) 74 #[.int .u64 0, .int .u64 0, .int .u64 0] := by
    have h := blk_second (w.alloc (.cells #[.int .u64 x0, .int .u64 x1, .int .u64 x2] 74)) (.cells #[.int .u64 y0, .int .u64 y1] 72) 74 #[.int .u64 0, .int .u64 0, .int .u64 0]
    rw [show (w.alloc (.cells #[.int .u64 x0, .int .u64 x1, .int .u64 x2] 74)).heap.size = w.heap.size + 1 by simp] at h
    exact h.below b1 (by simp <;> omega)
  obtain ⟨l00, hl00⟩ : ∃ q, q = x0 * y0 % 18446744073709551616 := ⟨_, rfl⟩
  obtain ⟨g00, hg00⟩ : ∃ q, q = x0 * y0 / 18446744073709551616 := ⟨_, rfl⟩
  rw [← hl00, ← hg00]
  have HL00 := Lib.hid hl00
  have HG00 := Lib.hid hg00
  have K0 := Lib.hid k0
  have K1 := Lib.hid k1
  have K2 := Lib.hid k2
  have BW := Lib.hid bw
  have lt : w.heap.size + 1 + 1 < w1.heap.size := k2.lt
  clear b1 bw k0 k1 k2 hl00 hg00
  go_wp2_with fail
  have k0 := K0.out.alloc (.cells #[.int .u64 l00, .int .u64 g00] 72)
  have k1 := K1.out.alloc (.cells #[.int .u64 l00, .int .u64 g00] 72)
  have k2 := K2.out.alloc (.cells #[.int .u64 l00, .int .u64 g00] 72)
  have k3 : Blk (w1.alloc (.cells #[.int .u64 l00, .int .u64 g00] 72)) w1.heap.size 72 #[.int .u64 l00, .int .u64 g00] := Blk.new w1 _ _
  have bw := BW.out.alloc BW.out.size (.cells #[.int .u64 l00, .int .u64 g00] 72)
  obtain ⟨g3, hg3⟩ : ∃ g3, g3 = w1.heap.size := ⟨_, rfl⟩
  rw [← hg3] at k3 lt ⊢
  show Code.wp _ _ _ _ (w1.alloc (.cells #[.int .u64 l00, .int .u64 g00] 72))
  generalize w1.alloc (.cells #[.int .u64 l00, .int .u64 g00] 72) = w2 at k0 k1 k2 k3 bw ⊢
  clear K0 K1 K2 BW hg3
  have K0r := Lib.hid k0
  have K1r := Lib.hid k1
  have K2r := Lib.hid k2
  have K3r := Lib.hid k3
  have BWr := Lib.hid bw
  clear k0 k1 k2 k3 bw P00
  obtain ⟨l10, hl10⟩ : ∃ q, q = x1 * y0 % 18446744073709551616 := ⟨_, rfl⟩
  obtain ⟨g10, hg10⟩ : ∃ q, q = x1 * y0 / 18446744073709551616 := ⟨_, rfl⟩
  obtain ⟨l01, hl01⟩ : ∃ q, q = x0 * y1 % 18446744073709551616 := ⟨_, rfl⟩
  obtain ⟨g01, hg01⟩ : ∃ q, q = x0 * y1 / 18446744073709551616 := ⟨_, rfl⟩
  rw [← hl10, ← hg10] at P10
  rw [← hl01, ← hg01] at P01
  have Qr := Lib.hid (fun W => plus_any l10 g10 l01 g01 (hl10 ▸ m64_lt _) (hl01 ▸ m64_lt _) W)
  obtain ⟨L1, hL1⟩ : ∃ q, q = (l10 + l01) % 18446744073709551616 := ⟨_, rfl⟩
  obtain ⟨H1, hH1⟩ : ∃ q, q = (g10 + g01 + (l10 + l01) / 18446744073709551616) % 18446744073709551616 := ⟨_, rfl⟩
  rw [← hL1, ← hH1] at Qr
  have HPr := Lib.hid (And.intro hl10 (And.intro hg10 (And.intro hl01 (And.intro hg01 (And.intro hL1 hH1)))))
  clear hl10 hg10 hl01 hg01 hL1 hH1
  have KAr := Lib.hid (show ∀ W, Below w2.heap.size w2 W → W.cell? ⟨w.heap.size, 0, none⟩ = some (.int .u64 x0) ∧ W.cell? ⟨w.heap.size, 1, none⟩ = some (.int .u64 x1) ∧ W.cell? ⟨w.heap.size + 1, 0, none⟩ = some (.int .u64 y0) ∧ W.cell? ⟨w.heap.size + 1, 1, none⟩ = some (.int .u64 y1) from fun W h => ⟨(K0r.out.below h K0r.out.lt).cell 0, (K0r.out.below h K0r.out.lt).cell 1, (K1r.out.below h K1r.out.lt).cell 0, (K1r.out.below h K1r.out.lt).cell 1⟩)
  have bIr : Below w2.heap.size w2 w2.drew := ⟨rfl, rfl, rfl, Nat.le_refl _, fun _ _ => rfl⟩
  have HBIr := Lib.hid bIr
  have lIr : w2.drew.heap.size = w2.heap.size := rfl
  clear bIr
  go_upto_region 2 with (fail)
  go_cut [6] (fun p wx => ∃ gN, p = .pointer (some ⟨gN, 0, none⟩) ∧ w2.heap.size ≤ gN ∧ Blk wx gN 72 #[.int .u64 L1, .int .u64 H1] ∧ Below w2.heap.size w2 wx)
  case first =>
   go_region_held3 (fun w' => w'.cell? ⟨w.heap.size, 0, none⟩ = some (.int .u64 x0) ∧ w'.cell? ⟨w.heap.size, 1, none⟩ = some (.int .u64 x1) ∧ w'.cell? ⟨w.heap.size + 1, 0, none⟩ = some (.int .u64 y0) ∧ w'.cell? ⟨w.heap.size + 1, 1, none⟩ = some (.int .u64 y1)) (first
    | exact KAr.out _ Er
    | exact KAr.out _ Dr
    | exact KAr.out _ Br
    | exact KAr.out _ HBIr.out
    | exact KAr.out _ (Below.setCell (Below.setCell Er Dr.size _) Dr.size _)
    | exact KAr.out _ (Below.setCell (Below.setCell Er Br.size _) Br.size _)
    | exact KAr.out _ (Below.setCell (Below.setCell Er (Nat.le_refl _) _) (Nat.le_refl _) _)
    | exact KAr.out _ (Below.alloc HBIr.out (Nat.le_refl _) _)
    | exact KAr.out _ (Below.alloc Br Br.size _)
    | exact KAr.out _ (Below.alloc Dr Dr.size _)
    | exact KAr.out _ (Below.alloc Er Er.size _)
    | (go_keep; done)) (first
    | (go_at_call 50
       (with_reducible refine (P10.out _).mono ?_)
       rintro e war ⟨rfl, b3⟩
       have Br : Below w2.heap.size w2 war := by first | exact HBIr.out.trans (b3.mono (Nat.le_refl _)) | exact (HBIr.out.alloc (Nat.le_refl _) _).trans (b3.mono (by simp))
       try (have n3 : Blk war w2.heap.size 72 #[.int .u64 0, .int .u64 0] := Blk.below (Blk.new w2.drew 72 #[.int .u64 0, .int .u64 0]) b3 (by simp))
       try (have N3 := Lib.hid n3; have v30 := n3.cell 0; have v31 := n3.cell 1; have f30 := n3.frozen 0; have f31 := n3.frozen 1))
    | (go_at_call 50
       (with_reducible refine (P01.out _).mono ?_)
       rintro e wbr ⟨rfl, b4⟩
       have Dr : Below w2.heap.size w2 wbr := by first | exact Br.trans (b4.mono Br.size) | exact (Br.alloc Br.size _).trans (b4.mono (by have := Br.size; simp; omega))
       try (have n4 : Blk wbr w2.heap.size 72 #[.int .u64 0, .int .u64 0] := Blk.below n3 b4 n3.lt)
       try (have n4 : Blk wbr war.heap.size 72 #[.int .u64 0, .int .u64 0] := Blk.below (Blk.new war 72 #[.int .u64 0, .int .u64 0]) b4 (by simp)))
    | (go_at_call 40
       (with_reducible refine (Qr.out _).mono ?_)
       rintro e wcr ⟨rfl, b5⟩
       have Er : Below w2.heap.size w2 wcr := by first | exact Dr.trans (b5.mono Dr.size) | exact (Dr.alloc Dr.size _).trans (b5.mono (by have := Dr.size; simp; omega))
       try (have n5 : Blk wcr _ 72 #[.int .u64 0, .int .u64 0] := Blk.below n4 b5 n4.lt)
       try (have n5 : Blk wcr wbr.heap.size 72 #[.int .u64 0, .int .u64 0] := Blk.below (Blk.new wbr 72 #[.int .u64 0, .int .u64 0]) b5 (by simp))
       try (have v50 := n5.cell 0; have v51 := n5.cell 1; have f50 := n5.frozen 0; have f51 := n5.frozen 1)))
   all_goals
     go_wp2_with fail
     go_meet
     first
       | exact ⟨_, rfl, Er.size, Blk.new wcr _ _, Er.alloc Er.size _⟩
       | exact ⟨_, rfl, Dr.size, (n5.set_ 0 _).set_ 1 _, Below.setCell (Below.setCell Er Dr.size _) Dr.size _⟩
       | exact ⟨_, rfl, Br.size, (n5.set_ 0 _).set_ 1 _, Below.setCell (Below.setCell Er Br.size _) Br.size _⟩
       | exact ⟨_, rfl, Nat.le_refl _, (n5.set_ 0 _).set_ 1 _, Below.setCell (Below.setCell Er (Nat.le_refl _) _) (Nat.le_refl _) _⟩
  case rest =>
    obtain ⟨gN, rfl, hgN, bN, bW⟩ := hcut
    rename World => w4
    have hs2 := BWr.out.size
    have K0s := Lib.hid (K0r.out.below bW K0r.out.lt)
    have K1s := Lib.hid (K1r.out.below bW K1r.out.lt)
    have K2s := Lib.hid (K2r.out.below bW K2r.out.lt)
    have K3s := Lib.hid (K3r.out.below bW K3r.out.lt)
    have K4s := Lib.hid bN
    have BWs := Lib.hid (BWr.out.trans (bW.mono hs2))
    have lt4 : g3 < w4.heap.size := K3s.out.lt
    have lt5 : gN < w4.heap.size := K4s.out.lt
    clear bN bW KAr HBIr K0r K1r K2r K3r BWr Qr
    go_wp2_with fail
    obtain ⟨l20, hl20⟩ : ∃ q, q = x2 * y0 % 18446744073709551616 := ⟨_, rfl⟩
    obtain ⟨g20, hg20⟩ : ∃ q, q = x2 * y0 / 18446744073709551616 := ⟨_, rfl⟩
    obtain ⟨l11, hl11⟩ : ∃ q, q = x1 * y1 % 18446744073709551616 := ⟨_, rfl⟩
    obtain ⟨g11, hg11⟩ : ∃ q, q = x1 * y1 / 18446744073709551616 := ⟨_, rfl⟩
    rw [← hl20, ← hg20] at P20
    rw [← hl11, ← hg11] at P11
    have Qs := Lib.hid (fun W => plus_any l20 g20 l11 g11 (hl20 ▸ m64_lt _) (hl11 ▸ m64_lt _) W)
    obtain ⟨L2, hL2⟩ : ∃ q, q = (l20 + l11) % 18446744073709551616 := ⟨_, rfl⟩
    obtain ⟨H2, hH2⟩ : ∃ q, q = (g20 + g11 + (l20 + l11) / 18446744073709551616) % 18446744073709551616 := ⟨_, rfl⟩
    rw [← hL2, ← hH2] at Qs
    have HPs := Lib.hid (And.intro hl20 (And.intro hg20 (And.intro hl11 (And.intro hg11 (And.intro hL2 hH2)))))
    clear hl20 hg20 hl11 hg11 hL2 hH2
    have KAs := Lib.hid (show ∀ W, Below w4.heap.size w4 W → W.cell? ⟨w.heap.size, 2, none⟩ = some (.int .u64 x2) ∧ W.cell? ⟨w.heap.size, 1, none⟩ = some (.int .u64 x1) ∧ W.cell? ⟨w.heap.size + 1, 0, none⟩ = some (.int .u64 y0) ∧ W.cell? ⟨w.heap.size + 1, 1, none⟩ = some (.int .u64 y1) from fun W h => ⟨(K0s.out.below h K0s.out.lt).cell 2, (K0s.out.below h K0s.out.lt).cell 1, (K1s.out.below h K1s.out.lt).cell 0, (K1s.out.below h K1s.out.lt).cell 1⟩)
    have bIs : Below w4.heap.size w4 w4.drew := ⟨rfl, rfl, rfl, Nat.le_refl _, fun _ _ => rfl⟩
    have HBIs := Lib.hid bIs
    have lIs : w4.drew.heap.size = w4.heap.size := rfl
    clear bIs
    go_upto_region 3 with (fail)
    go_cut [7] (fun p wx => ∃ gN, p = .pointer (some ⟨gN, 0, none⟩) ∧ w4.heap.size ≤ gN ∧ Blk wx gN 72 #[.int .u64 L2, .int .u64 H2] ∧ Below w4.heap.size w4 wx)
    case first =>
     go_region_held3 (fun w' => w'.cell? ⟨w.heap.size, 2, none⟩ = some (.int .u64 x2) ∧ w'.cell? ⟨w.heap.size, 1, none⟩ = some (.int .u64 x1) ∧ w'.cell? ⟨w.heap.size + 1, 0, none⟩ = some (.int .u64 y0) ∧ w'.cell? ⟨w.heap.size + 1, 1, none⟩ = some (.int .u64 y1)) (first
      | exact KAs.out _ Es
      | exact KAs.out _ Ds
      | exact KAs.out _ Bs
      | exact KAs.out _ HBIs.out
      | exact KAs.out _ (Below.setCell (Below.setCell Es Ds.size _) Ds.size _)
      | exact KAs.out _ (Below.setCell (Below.setCell Es Bs.size _) Bs.size _)
      | exact KAs.out _ (Below.setCell (Below.setCell Es (Nat.le_refl _) _) (Nat.le_refl _) _)
      | exact KAs.out _ (Below.alloc HBIs.out (Nat.le_refl _) _)
      | exact KAs.out _ (Below.alloc Bs Bs.size _)
      | exact KAs.out _ (Below.alloc Ds Ds.size _)
      | exact KAs.out _ (Below.alloc Es Es.size _)
      | (go_keep; done)) (first
      | (go_at_call 50
         (with_reducible refine (P20.out _).mono ?_)
         rintro e was ⟨rfl, b3⟩
         have Bs : Below w4.heap.size w4 was := by first | exact HBIs.out.trans (b3.mono (Nat.le_refl _)) | exact (HBIs.out.alloc (Nat.le_refl _) _).trans (b3.mono (by simp))
         try (have n3 : Blk was w4.heap.size 72 #[.int .u64 0, .int .u64 0] := Blk.below (Blk.new w4.drew 72 #[.int .u64 0, .int .u64 0]) b3 (by simp))
         try (have N3 := Lib.hid n3; have v30 := n3.cell 0; have v31 := n3.cell 1; have f30 := n3.frozen 0; have f31 := n3.frozen 1))
      | (go_at_call 50
         (with_reducible refine (P11.out _).mono ?_)
         rintro e wbs ⟨rfl, b4⟩
         have Ds : Below w4.heap.size w4 wbs := by first | exact Bs.trans (b4.mono Bs.size) | exact (Bs.alloc Bs.size _).trans (b4.mono (by have := Bs.size; simp; omega))
         try (have n4 : Blk wbs w4.heap.size 72 #[.int .u64 0, .int .u64 0] := Blk.below n3 b4 n3.lt)
         try (have n4 : Blk wbs was.heap.size 72 #[.int .u64 0, .int .u64 0] := Blk.below (Blk.new was 72 #[.int .u64 0, .int .u64 0]) b4 (by simp)))
      | (go_at_call 40
         (with_reducible refine (Qs.out _).mono ?_)
         rintro e wcs ⟨rfl, b5⟩
         have Es : Below w4.heap.size w4 wcs := by first | exact Ds.trans (b5.mono Ds.size) | exact (Ds.alloc Ds.size _).trans (b5.mono (by have := Ds.size; simp; omega))
         try (have n5 : Blk wcs _ 72 #[.int .u64 0, .int .u64 0] := Blk.below n4 b5 n4.lt)
         try (have n5 : Blk wcs wbs.heap.size 72 #[.int .u64 0, .int .u64 0] := Blk.below (Blk.new wbs 72 #[.int .u64 0, .int .u64 0]) b5 (by simp))
         try (have v50 := n5.cell 0; have v51 := n5.cell 1; have f50 := n5.frozen 0; have f51 := n5.frozen 1)))
     all_goals
       go_wp2_with fail
       go_meet
       first
         | exact ⟨_, rfl, Es.size, Blk.new wcs _ _, Es.alloc Es.size _⟩
         | exact ⟨_, rfl, Ds.size, (n5.set_ 0 _).set_ 1 _, Below.setCell (Below.setCell Es Ds.size _) Ds.size _⟩
         | exact ⟨_, rfl, Bs.size, (n5.set_ 0 _).set_ 1 _, Below.setCell (Below.setCell Es Bs.size _) Bs.size _⟩
         | exact ⟨_, rfl, Nat.le_refl _, (n5.set_ 0 _).set_ 1 _, Below.setCell (Below.setCell Es (Nat.le_refl _) _) (Nat.le_refl _) _⟩
    case rest =>
      obtain ⟨gP, rfl, hgP, bP, bW⟩ := hcut
      rename World => w6
      have k0 := K0s.out.below bW K0s.out.lt
      have k1 := K1s.out.below bW K1s.out.lt
      have k2 := K2s.out.below bW K2s.out.lt
      have k3 := K3s.out.below bW K3s.out.lt
      have k4 := K4s.out.below bW K4s.out.lt
      have bwz := BWs.out.trans (bW.mono BWs.out.size)
      obtain ⟨p21, hp21⟩ : ∃ q, q = x2 * y1 := ⟨_, rfl⟩
      have hp21b : p21 < 18446744073709551616 := by
        have h := Nat.mul_le_mul h2 (Nat.le_of_lt h4)
        rw [← hp21] at h
        exact Nat.lt_of_le_of_lt h (by decide)
      have ep : (x2 : Int) * (y1 : Int) = (p21 : Int) := by rw [hp21]; simp
      obtain ⟨t1, d1⟩ : ∃ q, q = (g00 + L1) % 18446744073709551616 := ⟨_, rfl⟩
      obtain ⟨c1, d2⟩ : ∃ q, q = (g00 + L1) / 18446744073709551616 := ⟨_, rfl⟩
      obtain ⟨t2, d3⟩ : ∃ q, q = (H1 + L2 + c1) % 18446744073709551616 := ⟨_, rfl⟩
      obtain ⟨c2, d4⟩ : ∃ q, q = (H1 + L2 + c1) / 18446744073709551616 := ⟨_, rfl⟩
      obtain ⟨t3, d5⟩ : ∃ q, q = (H2 + p21 + c2) % 18446744073709551616 := ⟨_, rfl⟩
      obtain ⟨c3, d6⟩ : ∃ q, q = (H2 + p21 + c2) / 18446744073709551616 := ⟨_, rfl⟩
      obtain ⟨e10, e11, e12, e13, eL1, eH1⟩ := HPr.out
      obtain ⟨e20, e21, e22, e23, eL2, eH2⟩ := HPs.out
      have mL1 : L1 < 18446744073709551616 := eL1 ▸ m64_lt _
      have mH1 : H1 < 18446744073709551616 := eH1 ▸ m64_lt _
      have mL2 : L2 < 18446744073709551616 := eL2 ▸ m64_lt _
      have mg00 : g00 < 18446744073709551616 := by
        have h : g00 ≤ y0 := HG00.out ▸ hi_le h0
        exact Nat.lt_of_le_of_lt h (Nat.lt_trans h3 (by decide))
      have kc1 : c1 ≤ 1 := d2 ▸ carry_le0 mg00 mL1
      have kc2 : c2 ≤ 1 := d4 ▸ carry_le mH1 mL2 kc1
      have ra := add64_run0 g00 L1
      have rb := add64_run H1 L2 c1 kc1
      have rc := add64_run H2 p21 c2 kc2
      rw [← d1, ← d2] at ra
      rw [← d3, ← d4] at rb
      rw [← d5, ← d6] at rc
      obtain ⟨ht3, hv1, hv2⟩ := times_val x0 x1 x2 y0 y1 l00 g00 l10 g10 l01 g01 L1 H1 l20 g20 l11 g11 L2 H2 p21 t1 c1 t2 c2 t3 v h0 h1 h2 h3 h4 hv HL00.out HG00.out e10 e11 e12 e13 eL1 eH1 e20 e21 e22 e23 eL2 eH2 hp21 d1 d2 d3 d4 d5
      have CF := Lib.hid (fun W => fold_any l00 t1 t2 t3 (HL00.out ▸ m64_lt _) (d1 ▸ m64_lt _) (d3 ▸ m64_lt _) ht3 W)
      have V1 := Lib.hid hv1
      have V2 := Lib.hid hv2
      have q0 : w6.cell? ⟨w.heap.size, 2, none⟩ = some (.int .u64 x2) := k0.cell 2
      have q1 : w6.cell? ⟨w.heap.size + 1, 1, none⟩ = some (.int .u64 y1) := k1.cell 1
      have q2 : w6.cell? ⟨g3, 0, none⟩ = some (.int .u64 l00) := k3.cell 0
      have q3 : w6.cell? ⟨g3, 1, none⟩ = some (.int .u64 g00) := k3.cell 1
      have q4 : w6.cell? ⟨gN, 0, none⟩ = some (.int .u64 L1) := k4.cell 0
      have q5 : w6.cell? ⟨gN, 1, none⟩ = some (.int .u64 H1) := k4.cell 1
      have q6 : w6.cell? ⟨gP, 0, none⟩ = some (.int .u64 L2) := bP.cell 0
      have q7 : w6.cell? ⟨gP, 1, none⟩ = some (.int .u64 H2) := bP.cell 1
      have K2z := Lib.hid k2
      have BZ := Lib.hid bwz
      clear k0 k1 k2 k3 k4 bwz bW bP hp21 d1 d2 d3 d4 d5 d6 e10 e11 e12 e13 eL1 eH1 e20 e21 e22 e23 eL2 eH2 mL1 mH1 mL2 mg00 ht3 hv1 hv2 hv kc1 kc2 HPr HPs HL00 HG00 K0s K1s K2s K3s K4s BWs KAs HBIs Qs P20 P11
      go_wp2_with fail
      refine (CF.out _).mono ?_
      rintro e w7 ⟨n0, n1, n2, rfl, hn0, hn1, hval, b7⟩
      rw [← V1.out, ← mod4_word t2 t3, ← V2.out] at hval
      have HVAL := Lib.hid hval
      have k2 := K2z.out.below b7 K2z.out.lt
      have r4 : w7.cell? ⟨w.heap.size + 1 + 1, 0, none⟩ = some (.int .u64 0) := k2.cell 0
      have r5 : w7.cell? ⟨w.heap.size + 1 + 1, 1, none⟩ = some (.int .u64 0) := k2.cell 1
      have r6 : w7.cell? ⟨w.heap.size + 1 + 1, 2, none⟩ = some (.int .u64 0) := k2.cell 2
      have g4 := k2.frozen 0
      have g5 := k2.frozen 1
      have g6 := k2.frozen 2
      have K2y := Lib.hid k2
      have BY := Lib.hid (BZ.out.trans (b7.mono BZ.out.size))
      have HN := Lib.hid (And.intro hn0 hn1)
      clear hval k2 b7 hn0 hn1
      go_wp2_with fail
      have hfin := ((K2y.out.set_ 0 (.int .u64 n0)).set_ 1 (.int .u64 n1)).set_ 2 (.int .u64 n2)
      have hb := ((BY.out.setCell (p := ⟨w.heap.size + 1 + 1, 0, none⟩) (by simp; omega) (.int .u64 n0)).setCell (p := ⟨w.heap.size + 1 + 1, 1, none⟩) (by simp; omega) (.int .u64 n1)).setCell (p := ⟨w.heap.size + 1 + 1, 2, none⟩) (by simp; omega) (.int .u64 n2)
      refine bodyPost_ret (v := .agg #[.int .u64 n0, .int .u64 n1, .int .u64 n2]) (results_cell_row rfl _ _ (w.heap.size + 1 + 1) 74 _ (0, 0) _ rfl hfin Try.underlying74 rfl (by kernel_rfl)) rfl ⟨n0, n1, n2, rfl, HN.out.1, HN.out.2, HVAL.out, hb⟩
end Go.Proofs.Ytpedajjmbdjfiaa
