/-
  salt.Stream.
-/
import Derived.Test.YtpedajjmbdjfiaaPolyN
import Derived.Test.YtpedajjmbdjfiaaSaltD
namespace Go.Proofs.Ytpedajjmbdjfiaa
open Go.RowKit
set_option linter.unusedVariables false

theorem xor8_zero (x : Int) (h : 0 ≤ x ∧ x < 256) : bits .xor .u8 0 x = x := by
  obtain ⟨n, rfl⟩ := Int.eq_ofNat_of_zero_le h.1
  have := u8_xor_nat 0 n (by omega) (by omega)
  rw [show ((0 : Nat) : Int) = 0 from rfl] at this
  rw [this, Nat.zero_xor]
theorem xorb_zeros : ∀ {s : List Int}, Bytes s → xorb (List.replicate s.length 0) s = s
  | [], _ => rfl
  | x :: s, h => by
    have hx := h x (by simp)
    have hs : Bytes s := fun y hy => h y (by simp [hy])
    show xorb (List.replicate (s.length + 1) 0) (x :: s) = x :: s
    rw [List.replicate_succ]
    show bits .xor .u8 0 x :: xorb (List.replicate s.length 0) s = x :: s
    rw [xor8_zero x hx, xorb_zeros hs]
theorem xorb_stream (key nonce : List Int) (f : Int) (n : Nat) : xorb (List.replicate n 0) (stream key nonce f n) = stream key nonce f n := by
  have := xorb_zeros (stream_bytes key nonce f n)
  rwa [stream_length] at this

theorem mk_z (n c : Nat) (z z' : Int) (hz : z = n) (hz' : z' = c) (h : n ≤ c) (hc : c ≤ 70368744177664) (W : World) : (Instr.makeSlice 27 (.int .i64 z) (.int .i64 z')).run Try.prog W = .ok (.slice (some ⟨W.heap.size, 0, none⟩) n c) (W.alloc (.cells (IV .u8 (List.replicate c 0)).toArray 5)) := by
  subst hz; subst hz'
  obtain ⟨i0, hi0, hz0, hz1, hz2⟩ := info_parts info_u8
  have h := run_make (P := Try.prog) W 27 5 i0 (.int .u8 0) Try.underlying27 hi0 hz0 .i64 .i64 n c (by omega) (by omega) (by rw [hz2]; omega) (by omega)
  rw [Int.toNat_natCast, Int.toNat_natCast, hz1, Nat.mul_one] at h
  rw [← made_u8]
  exact h

set_option maxHeartbeats 800000 in
theorem Stream_any (key nonce : List Int) (f : Int) (n : Nat) (w : World) (hn : n ≤ 65536) (hk : key.length = 32) (hkb : Bytes key) (hnl : nonce.length = 12) (hnb : Bytes nonce) (hf : W32 f) :
    Calls Try.prog 10 #[.agg (IV .u8 key).toArray, .agg (IV .u8 nonce).toArray, .int .u32 f, .int .i64 n] w fun e w' => ∃ g, e = .returned (.tuple #[.slice (some ⟨g, 0, none⟩) n n, .int .i64 0]) ∧
      w.heap.size ≤ g ∧ Blk w' g 5 (IV .u8 (stream key nonce f n)).toArray ∧ Below w.heap.size w w' := by
  have CX := Lib.hid (fun (g : Nat) W (hb : Blk W g 5 (IV .u8 (List.replicate n 0)).toArray) => xor_any g 5 (List.replicate n 0) [] n key nonce f W (by rw [List.append_nil]; exact hb) (zeros_bytes n) (by simp) (by omega) hk hkb hnl hnb hf)
  obtain ⟨KA, hKA⟩ : ∃ KA, KA = (IV .u8 key).toArray := ⟨_, rfl⟩
  obtain ⟨NA, hNA⟩ : ∃ NA, NA = (IV .u8 nonce).toArray := ⟨_, rfl⟩
  rw [← hKA, ← hNA] at CX ⊢
  have SK := Lib.hid (show KA.size = 32 by rw [hKA]; simp [IV, hk])
  have SN := Lib.hid (show NA.size = 12 by rw [hNA]; simp [IV, hnl])
  have I32 := Lib.hid (show (Try.prog.info? 22).map (·.size) = some 32 by kernel_rfl)
  have I12 := Lib.hid (show (Try.prog.info? 23).map (·.size) = some 12 by kernel_rfl)
  rw [List.length_replicate, xorb_stream, List.append_nil] at CX
  have hmk := fun W => mk_z n n n n rfl rfl (Nat.le_refl n) (by omega) W
  clear hKA hNA hk hkb hnl hnb hf
  go_enter Try.func10, Try.ntmps10
  go_wp2_with (first
    | refine wpList_load_row rfl 22 (.tmp 4) rfl w.heap.size rfl 22 KA (0, 0) _ (((Blk.new w _ KA).alloc _).alloc _) Try.underlying22 rfl (by rw [SK.out]; exact I32.out) ?_
    | refine wpList_load_row rfl 23 (.tmp 5) rfl (w.heap.size + 1) rfl 23 NA (0, 0) _ ((blk_second w _ _ NA).alloc _) Try.underlying23 rfl (by rw [SN.out]; exact I12.out) ?_)
  have hb : Blk (((w.alloc (.cells KA 22)).alloc (.cells NA 23)).alloc (.cells (IV .u8 (List.replicate n 0)).toArray 5)) (w.heap.size + 1 + 1) 5 (IV .u8 (List.replicate n 0)).toArray := by
    have h := blk_second (w.alloc (.cells KA 22)) (.cells NA 23) 5 (IV .u8 (List.replicate n 0)).toArray
    simpa using h
  refine (CX.out _ _ hb).mono ?_
  rintro e w1 ⟨rfl, blk, gr⟩
  have BL := Lib.hid (show Below w.heap.size w w1 from grown_below ((((Below.refl _ _).alloc (Nat.le_refl _) _).alloc (by simp) _).alloc (by simp; omega) _) gr (by simp; omega) (by omega))
  have BK := Lib.hid blk
  clear gr blk hb
  go_wp2
  go_ret2
  exact ⟨_, rfl, by omega, BK.out, BL.out⟩
end Go.Proofs.Ytpedajjmbdjfiaa
