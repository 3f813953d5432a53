import Derived.Test.YtpedajjmbdjfiaaPolyE
import Derived.Test.YtpedajjmbdjfiaaSaltC
import Derived.Deep.RegionWith
namespace Go.Proofs.Ytpedajjmbdjfiaa
open Go.RowKit
set_option linter.unusedVariables false
set_option linter.unusedSimpArgs false

theorem bits_join32 (x y : Int) (hx : 0 ≤ x ∧ x < 4294967296) (hy : 0 ≤ y ∧ y < 4294967296) : bits .or .u64 x (y * 4294967296) = x + y * 4294967296 := by
  obtain ⟨a, rfl⟩ := Int.eq_ofNat_of_zero_le hx.1
  obtain ⟨b, rfl⟩ := Int.eq_ofNat_of_zero_le hy.1
  have e : ((b : Int) * 4294967296) = ((b * 4294967296 : Nat) : Int) := by simp
  have j := nat_join 32 (b * 4294967296) a (Nat.mul_mod_left b (2 ^ 32)) (by omega)
  rw [e, u64_or_nat a (b * 4294967296) (by omega) (by omega), Nat.or_comm, j, Nat.add_comm]
  simp

set_option maxHeartbeats 800000 in
theorem word64_any (b off n c : Nat) (x y : Int) (w : World) (hn : 8 ≤ n) (hc : n ≤ c) (hm : c ≤ 9223372036854775807) (hx : 0 ≤ x ∧ x < 4294967296) (hy : 0 ≤ y ∧ y < 4294967296)
    (C0 : ∀ W : World, W.heap = w.heap → Calls Try.prog 25 #[.slice (some ⟨b, off, none⟩) n c] W fun e w' => e = .returned (.int .u32 x) ∧ ∃ k, w' = W.drewN k)
    (C1 : ∀ W : World, W.heap = w.heap → Calls Try.prog 25 #[.slice (some ⟨b, off + 4, none⟩) (n - 4) (c - 4)] W fun e w' => e = .returned (.int .u32 y) ∧ ∃ k, w' = W.drewN k) :
    Calls Try.prog 37 #[.slice (some ⟨b, off, none⟩) n c] w fun e w' => e = .returned (.int .u64 (x + y * 4294967296)) ∧ ∃ k, w' = w.drewN k := by
  have H0 := Lib.hid (C0 w.drew rfl)
  have H1 := Lib.hid (fun k => C1 (w.drewN k) rfl)
  have hS : ∀ W : World, (Instr.slice 27 (.slice (some ⟨b, off, none⟩) n c) (some (.int .i64 4)) none none).run Try.prog W = .ok (.slice (some ⟨b, off + 4, none⟩) (n - 4) (c - 4)) W := fun W => by
    rw [show ((4 : Int)) = ((4 : Nat) : Int) from rfl, run_slice_l (P := Try.prog) W 27 (some ⟨b, off, none⟩) n c (by rw [elem_u8]; exact Try.underlying27) .i64 ((4 : Nat) : Int) (by omega) (by omega), elem_u8]
    rw [run_sizeOf_u8]
    simp [sliced, Addr.add, show ¬ c = 4 by omega]
  have hj := bits_join32 x y hx hy
  have c1 : IntKind.u64.wrap x = x := by rw [IntKind.wrap_u64]; omega
  have c2 : IntKind.u64.wrap y = y := by rw [IntKind.wrap_u64]; omega
  have c3 : IntKind.u64.wrap (y * 4294967296) = y * 4294967296 := by rw [IntKind.wrap_u64]; omega
  clear C0 C1
  go_enter Try.func37, Try.ntmps37
  go_upto_region 1 with (fail)
  go_region_with (first
    | (go_at_call 25
       (with_reducible refine H0.out.mono ?_)
       rintro e wa ⟨rfl, k1, rfl⟩)
    | (go_at_call 25
       (with_reducible refine (H1.out _).mono ?_)
       rintro e wb ⟨rfl, k2, rfl⟩))
  all_goals
    go_wp2_with fail
    go_ret
    exact ⟨rfl, _, rfl⟩
/-- Eight bytes at a place, as a number. -/
def w8 (l : List Int) (o : Nat) : Int := w4 l o + w4 l (o + 4) * 4294967296
theorem word64_of {w : World} {g : Nat} {t : TypeId} {l : List Int} (hb : Blk w g t (IV .u8 l).toArray) (hB : Bytes l) (o n c : Nat) (hn : 8 ≤ n) (hc : n ≤ c) (hm : c ≤ 9223372036854775807) (hl : o + 8 ≤ l.length) :
    Calls Try.prog 37 #[.slice (some ⟨g, o, none⟩) n c] w fun e w' => e = .returned (.int .u64 (w8 l o)) ∧ ∃ k, w' = w.drewN k :=
  word64_any g o n c _ _ w hn hc hm (w4_ok hB _) (w4_ok hB _)
    (fun W hW => word_of (by unfold Blk at hb ⊢; rw [hW]; exact hb) hB o n c (by omega) (by omega) (by omega))
    (fun W hW => word_of (by unfold Blk at hb ⊢; rw [hW]; exact hb) hB (o + 4) (n - 4) (c - 4) (by omega) (by omega) (by omega))
end Go.Proofs.Ytpedajjmbdjfiaa
