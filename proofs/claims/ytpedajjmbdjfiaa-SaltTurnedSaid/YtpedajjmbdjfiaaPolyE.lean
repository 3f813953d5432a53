import Derived.Test.YtpedajjmbdjfiaaPolyD
import Derived.Deep.RegionHeld3
import Derived.Deep.DeepCutAuto
namespace Go.Proofs.Ytpedajjmbdjfiaa
open Go.RowKit
set_option linter.unusedVariables false
set_option linter.unusedSimpArgs false

theorem add_val (s0 s1 s2 b0 b1 b2 lo hi c0 c1 : Nat) (e0 : lo + 18446744073709551616 * c0 = s0 + b0) (e1 : hi + 18446744073709551616 * c1 = s1 + b1 + c0) :
    lo + hi * 18446744073709551616 + (s2 + b2 + c1) * 340282366920938463463374607431768211456 = (s0 + s1 * 18446744073709551616 + s2 * 340282366920938463463374607431768211456) + (b0 + b1 * 18446744073709551616 + b2 * 340282366920938463463374607431768211456) := by omega

set_option maxHeartbeats 1600000 in
theorem add_any (ga s0 s1 s2 f0 f1 z0 z1 b0 b1 b2 : Nat) (w : World) (hb : Blk w ga 76 #[.int .u64 s0, .int .u64 s1, .int .u64 s2, .int .u64 f0, .int .u64 f1, .int .u64 z0, .int .u64 z1])
    (h0 : s0 < 18446744073709551616) (h1 : s1 < 18446744073709551616) (h2 : s2 ≤ 5) (hb0 : b0 < 18446744073709551616) (hb1 : b1 < 18446744073709551616) (hb2 : b2 ≤ 1)
    (h3 : f0 < 1152921504606846976) (h4 : f1 < 1152921504606846976) (v : Nat)
    (hv : v = ((s0 + s1 * 18446744073709551616 + s2 * 340282366920938463463374607431768211456) + (b0 + b1 * 18446744073709551616 + b2 * 340282366920938463463374607431768211456)) * (f0 + f1 * 18446744073709551616)) :
    Calls Try.prog 38 #[.pointer (some ⟨ga, 0, none⟩), .agg #[.int .u64 b0, .int .u64 b1, .int .u64 b2]] w fun e w' => ∃ n0 n1 n2 : Nat,
      e = .returned (.tuple #[]) ∧ n0 < 18446744073709551616 ∧ n1 < 18446744073709551616 ∧
      n0 + n1 * 18446744073709551616 + n2 * 340282366920938463463374607431768211456 = v % 340282366920938463463374607431768211456 + 5 * (v / 340282366920938463463374607431768211456 / 4) + v / 340282366920938463463374607431768211456 % 4 * 340282366920938463463374607431768211456 ∧
      Blk w' ga 76 #[.int .u64 n0, .int .u64 n1, .int .u64 n2, .int .u64 f0, .int .u64 f1, .int .u64 z0, .int .u64 z1] ∧ w.grownBy w' (some ga) := by
  obtain ⟨lo, hlo⟩ : ∃ q, q = (s0 + b0) % 18446744073709551616 := ⟨_, rfl⟩
  obtain ⟨c0, hc0⟩ : ∃ q, q = (s0 + b0) / 18446744073709551616 := ⟨_, rfl⟩
  have kc0 : c0 ≤ 1 := by rw [hc0]; exact carry_le0 h0 hb0
  obtain ⟨hi, hhi⟩ : ∃ q, q = (s1 + b1 + c0) % 18446744073709551616 := ⟨_, rfl⟩
  obtain ⟨c1, hc1⟩ : ∃ q, q = (s1 + b1 + c0) / 18446744073709551616 := ⟨_, rfl⟩
  have kc1 : c1 ≤ 1 := by rw [hc1]; exact carry_le h1 hb1 kc0
  have r0 := add64_run0 s0 b0
  have r1 := add64_run s1 b1 c0 kc0
  rw [← hlo, ← hc0] at r0
  rw [← hhi, ← hc1] at r1
  have llo : lo < 18446744073709551616 := hlo ▸ m64_lt _
  have lhi : hi < 18446744073709551616 := hhi ▸ m64_lt _
  have hval := add_val s0 s1 s2 b0 b1 b2 lo hi c0 c1 (by rw [hlo, hc0]; exact Nat.mod_add_div _ _) (by rw [hhi, hc1]; exact Nat.mod_add_div _ _)
  obtain ⟨u, hu⟩ : ∃ q, q = s2 + b2 := ⟨_, rfl⟩
  have eu : (s2 : Int) + (b2 : Int) = (u : Int) := by rw [hu]; simp
  have wu : IntKind.u64.wrap (u : Int) = (u : Int) := by rw [IntKind.wrap_u64]; omega
  rw [← hu] at hval
  obtain ⟨tp, htp⟩ : ∃ q, q = u + c1 := ⟨_, rfl⟩
  rw [← htp] at hval
  rw [← hval] at hv
  have ktp : tp ≤ 7 := by omega
  have etp : (u : Int) + (c1 : Int) = (tp : Int) := by rw [htp]; simp
  have wtp : IntKind.u64.wrap (tp : Int) = (tp : Int) := by rw [IntKind.wrap_u64]; omega
  have CT := Lib.hid (fun W => times_any lo hi tp f0 f1 llo lhi ktp h3 h4 v hv W)
  have lga := hb.lt
  have kb : Blk (w.alloc (.cells #[.int .u64 b0, .int .u64 b1, .int .u64 b2] 74)) ga 76 #[.int .u64 s0, .int .u64 s1, .int .u64 s2, .int .u64 f0, .int .u64 f1, .int .u64 z0, .int .u64 z1] := hb.alloc _
  have kn : Blk (w.alloc (.cells #[.int .u64 b0, .int .u64 b1, .int .u64 b2] 74)) w.heap.size 74 #[.int .u64 b0, .int .u64 b1, .int .u64 b2] := Blk.new w _ _
  have ow : w.grownBy (w.alloc (.cells #[.int .u64 b0, .int .u64 b1, .int .u64 b2] 74)) (some ga) := only_of_below ((Below.refl _ _).alloc (Nat.le_refl _) _) _
  obtain ⟨gn, hgn⟩ : ∃ g, g = w.heap.size := ⟨_, rfl⟩
  clear hu hlo hc0 hhi hc1 hval htp hv hb kc0 kc1 h0 h1 hb0 hb1
  go_enter Try.func38, Try.ntmps38
  go_upto_region 1 with (fail)
  rw [← hgn] at kn ⊢
  clear hgn
  show Code.wp _ _ _ _ (w.alloc (.cells #[.int .u64 b0, .int .u64 b1, .int .u64 b2] 74))
  generalize w.alloc (.cells #[.int .u64 b0, .int .u64 b1, .int .u64 b2] 74) = w1 at kb kn ow ⊢
  have q0 : w1.cell? ⟨ga, 0, none⟩ = some (.int .u64 s0) := kb.cell 0
  have q1 : w1.cell? ⟨ga, 1, none⟩ = some (.int .u64 s1) := kb.cell 1
  have q2 : w1.cell? ⟨ga, 2, none⟩ = some (.int .u64 s2) := kb.cell 2
  have q3 : w1.cell? ⟨ga, 3, none⟩ = some (.int .u64 f0) := kb.cell 3
  have q4 : w1.cell? ⟨ga, 4, none⟩ = some (.int .u64 f1) := kb.cell 4
  have p0 : w1.cell? ⟨gn, 0, none⟩ = some (.int .u64 b0) := kn.cell 0
  have p1 : w1.cell? ⟨gn, 1, none⟩ = some (.int .u64 b1) := kn.cell 1
  have p2 : w1.cell? ⟨gn, 2, none⟩ = some (.int .u64 b2) := kn.cell 2
  have lt1 := kb.lt
  have lt2 := kn.lt
  have ne0 := World.new_ne w1 _ q0
  have ne1 := World.new_ne w1 _ p0
  have KB := Lib.hid kb
  have OW := Lib.hid ow
  clear kb kn ow
  go_region
  go_upto_region 2 with (fail)
  go_region
  go_upto_region 3 with (fail)
  go_region
  go_wp2_with fail
  refine (CT.out _).mono ?_
  rintro e w2 ⟨n0, n1, n2, rfl, hn0, hn1, hval, b2⟩
  have kd : Blk w1.drew.drew.drew ga 76 #[.int .u64 s0, .int .u64 s1, .int .u64 s2, .int .u64 f0, .int .u64 f1, .int .u64 z0, .int .u64 z1] := KB.out
  have ks := kd.below b2 kd.lt
  have os : w.grownBy w2 (some ga) := only_trans (only_drewN (only_drewN (only_drewN OW.out 1) 1) 1) (only_of_below b2 _)
  have KS := Lib.hid ks
  have OS := Lib.hid os
  have HN := Lib.hid (And.intro hn0 (And.intro hn1 hval))
  have x0 : w2.cell? ⟨ga, 0, none⟩ = some (.int .u64 s0) := ks.cell 0
  have x1 : w2.cell? ⟨ga, 1, none⟩ = some (.int .u64 s1) := ks.cell 1
  have x2 : w2.cell? ⟨ga, 2, none⟩ = some (.int .u64 s2) := ks.cell 2
  have g0 := ks.frozen 0
  have g1 := ks.frozen 1
  have g2 := ks.frozen 2
  clear ks os kd b2 hn0 hn1 hval q0 q1 q2 q3 q4 p0 p1 p2 ne0 ne1 eu wu etp wtp r0 r1
  go_wp2_with fail
  exact bodyPost_end (v := .tuple #[]) (results_none (by rfl) _ _ _) (by rfl) ⟨n0, n1, n2, rfl, HN.out.1, HN.out.2.1, HN.out.2.2, ((KS.out.set_ 0 (.int .u64 n0)).set_ 1 (.int .u64 n1)).set_ 2 (.int .u64 n2), only_setCell (only_setCell (only_setCell OS.out (.inl rfl) _) (.inl rfl) _) (.inl rfl) _⟩
end Go.Proofs.Ytpedajjmbdjfiaa
