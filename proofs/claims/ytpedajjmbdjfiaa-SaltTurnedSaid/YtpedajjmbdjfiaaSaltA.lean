import Derived.Test.YtpedajjmbdjfiaaMem
import Derived.Test.YtpedajjmbdjfiaaSaltSpec
namespace Go.Proofs.Ytpedajjmbdjfiaa
open Go.RowKit
set_option linter.unusedVariables false

theorem results_four {fn : Func} {t u v x : Tmp} (h : fn.results = #[.tmp t, .tmp u, .tmp v, .tmp x]) (tmps : Array Value) (P : Program) (w : World) :
    (results fn tmps).run P w = .ok (.tuple #[tmps.getD t undef, tmps.getD u undef, tmps.getD v undef, tmps.getD x undef]) w := by simp [results, h]
theorem join4le (a b c d : Int) (ha : 0 ≤ a ∧ a < 256) (hb : 0 ≤ b ∧ b < 256) (hc : 0 ≤ c ∧ c < 256) (hd : 0 ≤ d ∧ d < 256) :
    bits .or .u32 (bits .or .u32 (bits .or .u32 a (b * 256)) (c * 65536)) (d * 16777216) = a + b * 256 + c * 65536 + d * 16777216 := by
  have e1 : bits .or .u32 a (b * 256) = a + b * 256 := by
    rw [u32_or _ _ (by omega) (by omega) (by omega) (by omega), Nat.or_comm, nat_join 8 _ _ (by omega) (by omega)]; omega
  rw [e1]
  have e2 : bits .or .u32 (a + b * 256) (c * 65536) = a + b * 256 + c * 65536 := by
    rw [u32_or _ _ (by omega) (by omega) (by omega) (by omega), Nat.or_comm, nat_join 16 _ _ (by omega) (by omega)]; omega
  rw [e2, u32_or _ _ (by omega) (by omega) (by omega) (by omega), Nat.or_comm, nat_join 24 _ _ (by omega) (by omega)]
  omega

set_option maxHeartbeats 800000 in
theorem quarter_any (q : Q4) (w : World) (h : q.ok) :
    Calls Try.prog 45 #[.int .u32 q.a, .int .u32 q.b, .int .u32 q.c, .int .u32 q.d] w fun e w' =>
      e = .returned (.tuple #[.int .u32 (quart q).a, .int .u32 (quart q).b, .int .u32 (quart q).c, .int .u32 (quart q).d]) ∧ w = w' := by
  obtain ⟨a, b, c, d⟩ := q
  obtain ⟨h1, h2, h3, h4⟩ := h
  simp only at h1 h2 h3 h4
  obtain ⟨a1, ea1⟩ : ∃ x, x = ad32 a b := ⟨_, rfl⟩
  obtain ⟨y1, ey1⟩ : ∃ x, x = x32 d a1 := ⟨_, rfl⟩
  obtain ⟨d1, ed1⟩ : ∃ x, x = rotl y1 16 := ⟨_, rfl⟩
  obtain ⟨c1, ec1⟩ : ∃ x, x = ad32 c d1 := ⟨_, rfl⟩
  obtain ⟨y2, ey2⟩ : ∃ x, x = x32 b c1 := ⟨_, rfl⟩
  obtain ⟨b1, eb1⟩ : ∃ x, x = rotl y2 12 := ⟨_, rfl⟩
  obtain ⟨a2, ea2⟩ : ∃ x, x = ad32 a1 b1 := ⟨_, rfl⟩
  obtain ⟨y3, ey3⟩ : ∃ x, x = x32 d1 a2 := ⟨_, rfl⟩
  obtain ⟨d2, ed2⟩ : ∃ x, x = rotl y3 8 := ⟨_, rfl⟩
  obtain ⟨c2, ec2⟩ : ∃ x, x = ad32 c1 d2 := ⟨_, rfl⟩
  obtain ⟨y4, ey4⟩ : ∃ x, x = x32 b1 c2 := ⟨_, rfl⟩
  obtain ⟨b2, eb2⟩ : ∃ x, x = rotl y4 7 := ⟨_, rfl⟩
  have hq : quart ⟨a, b, c, d⟩ = ⟨a2, b2, c2, d2⟩ := by
    rw [quart, hq, hq]
    simp only [← ea1, ← ey1, ← ed1, ← ec1, ← ey2, ← eb1, ← ea2, ← ey3, ← ed2, ← ec2, ← ey4, ← eb2]
  rw [hq]
  have wa1 : W32 a1 := by rw [ea1]; exact ad32_ok _ _
  have wy1 : W32 y1 := by rw [ey1]; exact h4.xor wa1
  have wd1 : W32 d1 := by rw [ed1]; exact rotl_ok wy1 _
  have wc1 : W32 c1 := by rw [ec1]; exact ad32_ok _ _
  have wy2 : W32 y2 := by rw [ey2]; exact h2.xor wc1
  have wb1 : W32 b1 := by rw [eb1]; exact rotl_ok wy2 _
  have wa2 : W32 a2 := by rw [ea2]; exact ad32_ok _ _
  have wy3 : W32 y3 := by rw [ey3]; exact wd1.xor wa2
  have wd2 : W32 d2 := by rw [ed2]; exact rotl_ok wy3 _
  have wc2 : W32 c2 := by rw [ec2]; exact ad32_ok _ _
  have wy4 : W32 y4 := by rw [ey4]; exact wb1.xor wc2
  have r16 : rotS 16 = 16 := by kernel_rfl
  have r12 : rotS 12 = 12 := by kernel_rfl
  have r8 : rotS 8 = 8 := by kernel_rfl
  have r7 : rotS 7 = 7 := by kernel_rfl
  have C1 := rot_any y1 16 w wy1.1 wy1.2
  have C2 := rot_any y2 12 w wy2.1 wy2.2
  have C3 := rot_any y3 8 w wy3.1 wy3.2
  have C4 := rot_any y4 7 w wy4.1 wy4.2
  rw [r16, ← ed1] at C1
  rw [r12, ← eb1] at C2
  rw [r8, ← ed2] at C3
  rw [r7, ← eb2] at C4
  have D1 := Lib.hid C1
  have D2 := Lib.hid C2
  have D3 := Lib.hid C3
  have D4 := Lib.hid C4
  have e1 : (a + b) % 4294967296 = a1 := ea1.symm
  have e2 : bits .xor .u32 d a1 = y1 := ey1.symm
  have e3 : (c + d1) % 4294967296 = c1 := ec1.symm
  have e4 : bits .xor .u32 b c1 = y2 := ey2.symm
  have e5 : (a1 + b1) % 4294967296 = a2 := ea2.symm
  have e6 : bits .xor .u32 d1 a2 = y3 := ey3.symm
  have e7 : (c1 + d2) % 4294967296 = c2 := ec2.symm
  have e8 : bits .xor .u32 b1 c2 = y4 := ey4.symm
  clear C1 C2 C3 C4 ea1 ey1 ed1 ec1 ey2 eb1 ea2 ey3 ed2 ec2 ey4 eb2 hq r16 r12 r8 r7 wa1 wy1 wd1 wc1 wy2 wb1 wa2 wy3 wd2 wc2 wy4 h1 h2 h3 h4
  go_enter Try.func45, Try.ntmps45
  go_wp2_with fail
  refine D1.out.mono ?_
  rintro e w' ⟨rfl, rfl⟩
  go_wp2_with fail
  refine D2.out.mono ?_
  rintro e w' ⟨rfl, rfl⟩
  go_wp2_with fail
  refine D3.out.mono ?_
  rintro e w' ⟨rfl, rfl⟩
  go_wp2_with fail
  refine D4.out.mono ?_
  rintro e w' ⟨rfl, rfl⟩
  go_wp2_with fail
  refine bodyPost_ret (results_four rfl _ _ _) rfl ⟨rfl, rfl⟩

theorem word32_any (b off n c : Nat) (x0 x1 x2 x3 : Int) (w : World) (hn : 4 ≤ n) (hm : n ≤ 9223372036854775807)
    (c0 : w.cell? ⟨b, off, none⟩ = some (.int .u8 x0)) (c1 : w.cell? ⟨b, off + 1, none⟩ = some (.int .u8 x1)) (c2 : w.cell? ⟨b, off + 2, none⟩ = some (.int .u8 x2)) (c3 : w.cell? ⟨b, off + 3, none⟩ = some (.int .u8 x3))
    (h0 : 0 ≤ x0 ∧ x0 < 256) (h1 : 0 ≤ x1 ∧ x1 < 256) (h2 : 0 ≤ x2 ∧ x2 < 256) (h3 : 0 ≤ x3 ∧ x3 < 256) :
    Calls Try.prog 25 #[.slice (some ⟨b, off, none⟩) n c] w fun e w' => e = .returned (.int .u32 (x0 + x1 * 256 + x2 * 65536 + x3 * 16777216)) ∧ ∃ k, w' = w.drewN k := by
  have n0 : (0 : Int) < n := by omega
  have n1 : (1 : Int) < n := by omega
  have n2 : (2 : Int) < n := by omega
  have n3 : (3 : Int) < n := by omega
  have J := Lib.hid (join4le x0 x1 x2 x3 h0 h1 h2 h3)
  go_enter Try.func25, Try.ntmps25
  go_wp2_with fail
  go_quiet (fail)
  go_wp2_with fail
  go_ret
  exact ⟨by rw [← J.out]; rfl, _, rfl⟩
end Go.Proofs.Ytpedajjmbdjfiaa
