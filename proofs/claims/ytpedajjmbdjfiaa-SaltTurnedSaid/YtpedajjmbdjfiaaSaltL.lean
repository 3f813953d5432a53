/-
  SaltGoesOn, SaltTurned: the walks.
-/
import Derived.Test.YtpedajjmbdjfiaaSaltK
namespace Go.Proofs.Ytpedajjmbdjfiaa
open Go.RowKit
set_option linter.unusedVariables false

theorem u8_range {n : Int} (h : (Lit.int .u8 n).wf = true) : 0 ≤ n ∧ n < 256 := by
  simp [Lit.wf, IntKind.min, IntKind.max, IntKind.signed, IntKind.bits] at h; omega
theorem u32_range {n : Int} (h : (Lit.int .u32 n).wf = true) : 0 ≤ n ∧ n < 4294967296 := by
  simp [Lit.wf, IntKind.min, IntKind.max, IntKind.signed, IntKind.bits] at h; omega

set_option maxHeartbeats 1600000 in
theorem goesOn_walk (key nonce : List Int) (f s n : Int) (w : World) (hk : key.length = 32) (hkb : Bytes key) (hnl : nonce.length = 12) (hnb : Bytes nonce)
    (wf : (Lit.int .u32 f).wf = true) (ws : (Lit.int .u8 s).wf = true) (wn : (Lit.int .u8 n).wf = true) :
    Calls Try.prog 8 #[.agg (IV .u8 key).toArray, .agg (IV .u8 nonce).toArray, .int .u32 f, .int .u8 s, .int .u8 n] w fun e w' => e = .returned (.bool true) ∧ Below w.heap.size w w' := by
  have hf := u32_range wf
  have hs := u8_range ws
  have hn := u8_range wn
  clear wf ws wn
  obtain ⟨m, rfl⟩ := Int.eq_ofNat_of_zero_le hn.1
  obtain ⟨k, hk5⟩ := Int.eq_ofNat_of_zero_le (show 0 ≤ s % 5 by omega)
  have ez : 64 * (k : Int) + (m : Int) = ((64 * k + m : Nat) : Int) := by omega
  have e64 : 64 * (k : Int) = ((64 * k : Nat) : Int) := by omega
  have hk4 : k ≤ 4 := by omega
  obtain ⟨f2, hf2⟩ : ∃ f2, f2 = (f + (k : Int)) % 4294967296 := ⟨_, rfl⟩
  have C1 := fun W => Stream_any key nonce f (64 * k + m) W (by omega) hk hkb hnl hnb hf
  have C2 := fun W => Stream_any key nonce f2 m W (by omega) hk hkb hnl hnb (by unfold W32; omega)
  have hd := stream_drop key nonce f f2 k m (by rw [hf2]; exact Int.emod_emod_of_dvd _ (Int.dvd_refl _))
  rw [← ez] at C1
  obtain ⟨KA, hKA⟩ : ∃ KA, KA = (IV .u8 key).toArray := ⟨_, rfl⟩
  obtain ⟨NA, hNA⟩ : ∃ NA, NA = (IV .u8 nonce).toArray := ⟨_, rfl⟩
  obtain ⟨S1, hS1⟩ : ∃ S, S = stream key nonce f (64 * k + m) := ⟨_, rfl⟩
  obtain ⟨S2, hS2⟩ : ∃ S, S = stream key nonce f2 m := ⟨_, rfl⟩
  have l1 : S1.length = 64 * k + m := by rw [hS1, stream_length]
  have l2 : S2.length = m := by rw [hS2, stream_length]
  have b2 : Bytes S2 := by rw [hS2]; exact stream_bytes _ _ _ _
  rw [← hKA, ← hNA, ← hS1] at C1
  rw [← hKA, ← hNA, ← hS2] at C2
  rw [← hKA, ← hNA]
  rw [← hS1, ← hS2] at hd
  have H1 := Lib.hid C1
  have H2 := Lib.hid C2
  have HD := Lib.hid hd
  have AW := Lib.hid (fun W => awake3_any W)
  have SK := Lib.hid (show KA.size = 32 by rw [hKA]; simp [IV, hk])
  have SN := Lib.hid (show NA.size = 12 by rw [hNA]; simp [IV, hnl])
  have I32 := Lib.hid (show (Try.prog.info? 22).map (·.size) = some 32 by kernel_rfl)
  have I12 := Lib.hid (show (Try.prog.info? 23).map (·.size) = some 12 by kernel_rfl)
  have HF2 := Lib.hid hf2.symm
  have ef2 := hf2.symm
  have EZ := Lib.hid ez
  have E64 := Lib.hid e64
  clear ez e64
  clear C1 C2 hd hKA hNA hS1 hS2 hk hkb hnl hnb hf2
  go_enter Try.func8, Try.ntmps8
  go_wp2_with fail
  refine (AW.out _).mono ?_
  rintro e w1 ⟨rfl, hb1⟩
  have K1 := Lib.hid (show Blk w1 w.heap.size 22 KA from ((Blk.new w _ KA).alloc _).below hb1 (by simp; omega))
  have N1 := Lib.hid (show Blk w1 (w.heap.size + 1) 23 NA from (blk_second w _ _ NA).below hb1 (by simp))
  have B1 := Lib.hid (show Below w.heap.size w w1 from (((Below.refl _ _).alloc (Nat.le_refl _) _).alloc (by simp) _).trans (hb1.mono (by simp; omega)))
  clear hb1
  go_wp2_with (first
    | refine wpList_load_row rfl 22 (.tmp 5) rfl w.heap.size rfl 22 KA (0, 0) _ K1.out Try.underlying22 rfl (by rw [SK.out]; exact I32.out) ?_
    | refine wpList_load_row rfl 23 (.tmp 6) rfl (w.heap.size + 1) rfl 23 NA (0, 0) _ N1.out Try.underlying23 rfl (by rw [SN.out]; exact I12.out) ?_)
  refine (H1.out _).mono ?_
  rintro e w2 ⟨g1, rfl, hg1, k1, b1⟩
  have K2 := Lib.hid (K1.out.below b1 K1.out.lt)
  have N2 := Lib.hid (N1.out.below b1 N1.out.lt)
  have B2 := Lib.hid (B1.out.trans (b1.mono B1.out.size))
  have P2 := Lib.hid k1
  clear b1 k1 K1 N1 B1
  go_wp2_with (first
    | refine wpList_load_row rfl 22 (.tmp 5) rfl w.heap.size rfl 22 KA (0, 0) _ K2.out Try.underlying22 rfl (by rw [SK.out]; exact I32.out) ?_
    | refine wpList_load_row rfl 23 (.tmp 6) rfl (w.heap.size + 1) rfl 23 NA (0, 0) _ N2.out Try.underlying23 rfl (by rw [SN.out]; exact I12.out) ?_)
  refine (H2.out _).mono ?_
  rintro e w3 ⟨g2, rfl, hg2, k2, b2'⟩
  have B3 := Lib.hid (B2.out.trans (b2'.mono B2.out.size))
  have P3 := Lib.hid (P2.out.below b2' P2.out.lt)
  have Q3 := Lib.hid k2
  obtain ⟨A', hS, hR, _⟩ := slice_from (some ⟨g1, 0, none⟩) (64 * k + m) S1 (64 * k) .i64 (by omega) (by omega)
  rw [HD.out, l1, l2, ← E64.out, Nat.add_sub_cancel_left] at hS
  have CS := Lib.hid (same_yes A' (some ⟨g2, 0, none⟩) m m (S1.drop (64 * k)) S2 w3 (hR _ P3.out.rd) k2.rd (by rw [HD.out]; exact b2) HD.out)
  rw [HD.out, l2] at CS
  clear b2' k2 P2 K2 N2 B2 hR
  go_wp2_with fail
  refine CS.out.mono ?_
  rintro e w4 ⟨rfl, rfl⟩
  go_wp2
  go_ret
  exact ⟨rfl, B3.out⟩
end Go.Proofs.Ytpedajjmbdjfiaa
