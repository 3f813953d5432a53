import Derived.Test.YtpedajjmbdjfiaaPolyF
import Derived.Deep.DeepCutAuto
namespace Go.Proofs.Ytpedajjmbdjfiaa
open Go.RowKit
set_option linter.unusedVariables false
set_option linter.unusedSimpArgs false

/-- The words of a factor: eight bytes, with the bits cleared that RFC 8439 clears. -/
def fw (l : List Int) (o m : Nat) : Nat := (w8 l o).toNat &&& m
theorem w8_ok {l : List Int} (hB : Bytes l) (o : Nat) : 0 ≤ w8 l o ∧ w8 l o < 18446744073709551616 := by
  have h1 : 0 ≤ w4 l o ∧ w4 l o < 4294967296 := w4_ok hB o
  have h2 : 0 ≤ w4 l (o + 4) ∧ w4 l (o + 4) < 4294967296 := w4_ok hB (o + 4)
  unfold w8
  omega
theorem fw_is {l : List Int} (hB : Bytes l) (o m : Nat) (hm : m < 18446744073709551616) : bits .and .u64 (w8 l o) (m : Int) = (fw l o m : Int) := by
  have h := w8_ok hB o
  obtain ⟨a, ha⟩ := Int.eq_ofNat_of_zero_le h.1
  rw [fw, ha]
  exact u64_and_nat a m (by omega) hm
theorem slice_arr32z (g : Nat) (w : World) :
    (Instr.sliceAt 22 (.pointer (some ⟨g, 0, none⟩)) none none none).run Try.prog w = .ok (.slice (some ⟨g, 0, none⟩) 32 32) w := by
  rw [run_sliceAt_array_all (P := Try.prog) w 22 ⟨g, 0, none⟩ (by rw [arr32_len, arr32_elem]; exact Try.underlying22), arr32_elem, run_sizeOf_u8, arr32_len]
  simp [slicedAt, Addr.add]

theorem below_drewN {B : Nat} {a w : World} (h : Below B a w) (n : Nat) : Below B a (w.drewN n) := ⟨h.os, h.tape, h.output, h.size, h.block⟩
set_option maxHeartbeats 1600000 in
theorem newAuthenticator_any (key : List Int) (w : World) (hk : key.length = 32) (hB : Bytes key) :
    Calls Try.prog 26 #[.agg (IV .u8 key).toArray] w fun e w' => ∃ g, e = .returned (.pointer (some ⟨g, 0, none⟩)) ∧ w.heap.size ≤ g ∧
      Blk w' g 76 #[.int .u64 0, .int .u64 0, .int .u64 0, .int .u64 (fw key 0 1152921487695413247), .int .u64 (fw key 8 1152921487695413244), .int .u64 (w8 key 16), .int .u64 (w8 key 24)] ∧ Below w.heap.size w w' := by
  have e0 := fw_is hB 0 1152921487695413247 (by decide)
  have e1 := fw_is hB 8 1152921487695413244 (by decide)
  rw [show ((1152921487695413247 : Nat) : Int) = 1152921487695413247 from rfl] at e0
  rw [show ((1152921487695413244 : Nat) : Int) = 1152921487695413244 from rfl] at e1
  obtain ⟨f0, hf0⟩ : ∃ f, f = fw key 0 1152921487695413247 := ⟨_, rfl⟩
  obtain ⟨f1, hf1⟩ : ∃ f, f = fw key 8 1152921487695413244 := ⟨_, rfl⟩
  rw [← hf0] at e0 ⊢
  rw [← hf1] at e1 ⊢
  clear hf0 hf1
  obtain ⟨KA, hKA⟩ : ∃ KA, KA = (IV .u8 key).toArray := ⟨_, rfl⟩
  rw [← hKA]
  have HKA := Lib.hid hKA
  clear hKA
  go_enter Try.func26, Try.ntmps26
  go_upto_region 1 with (fail)
  have kk : Blk (w.alloc (.cells KA 22)) w.heap.size 22 (IV .u8 key).toArray := HKA.out ▸ Blk.new w _ _
  have bw : Below w.heap.size w (w.alloc (.cells KA 22)) := (Below.refl _ _).alloc (Nat.le_refl _) _
  obtain ⟨gK, hgK⟩ : ∃ g, g = w.heap.size := ⟨_, rfl⟩
  have HGK := Lib.hid hgK
  rw [← hgK] at kk bw
  show Code.wp _ _ _ _ (w.alloc (.cells KA 22))
  generalize w.alloc (.cells KA 22) = w1 at kk bw ⊢
  rw [← hgK]
  have G0 := Lib.hid (fun k => word64_of (w := w1.drewN k) (kk.drewN k) hB 0 32 32 (by omega) (by omega) (by omega) (by omega))
  have G1 := Lib.hid (fun k => word64_of (w := w1.drewN k) (kk.drewN k) hB 8 24 24 (by omega) (by omega) (by omega) (by omega))
  have G2 := Lib.hid (fun k => word64_of (w := w1.drewN k) (kk.drewN k) hB 16 16 16 (by omega) (by omega) (by omega) (by omega))
  have G3 := Lib.hid (fun k => word64_of (w := w1.drewN k) (kk.drewN k) hB 24 8 8 (by omega) (by omega) (by omega) (by omega))
  have G0' := Lib.hid (show Calls Try.prog 37 #[.slice (some ⟨gK, 0, none⟩) 32 32] w1.drew _ from G0.out 1)
  have s0 := slice_arr32z gK
  have s1 : ∀ W : World, (Instr.sliceAt 22 (.pointer (some ⟨gK, 0, none⟩)) (some (.int .i64 8)) none none).run Try.prog W = .ok (.slice (some ⟨gK, 8, none⟩) 24 24) W := fun W => slice_arr32 gK 8 .i64 (by omega) W
  have s2 : ∀ W : World, (Instr.sliceAt 22 (.pointer (some ⟨gK, 0, none⟩)) (some (.int .i64 16)) none none).run Try.prog W = .ok (.slice (some ⟨gK, 16, none⟩) 16 16) W := fun W => slice_arr32 gK 16 .i64 (by omega) W
  have s3 : ∀ W : World, (Instr.sliceAt 22 (.pointer (some ⟨gK, 0, none⟩)) (some (.int .i64 24)) none none).run Try.prog W = .ok (.slice (some ⟨gK, 24, none⟩) 8 8) W := fun W => slice_arr32 gK 24 .i64 (by omega) W
  have KK := Lib.hid kk
  have BW := Lib.hid bw
  have HK := Lib.hid hk
  have HB := Lib.hid hB
  clear hgK kk bw hk hB
  go_region_with (first
    | (go_at_call 37
       (with_reducible refine G0'.out.mono ?_)
       rintro e wa ⟨rfl, k1, rfl⟩)
    | (go_at_call 37
       (with_reducible refine (G1.out _).mono ?_)
       rintro e wb ⟨rfl, k2, rfl⟩)
    | (go_at_call 37
       (with_reducible refine (G2.out _).mono ?_)
       rintro e wc ⟨rfl, k3, rfl⟩)
    | (go_at_call 37
       (with_reducible refine (G3.out _).mono ?_)
       rintro e wd ⟨rfl, k4, rfl⟩))
  all_goals
    have hb : Below w.heap.size w w1 := HGK.out ▸ BW.out
    have HB1 := Lib.hid hb
    clear hb
    go_wp2_with fail
    go_ret
    exact ⟨w1.heap.size, rfl, HB1.out.size, Blk.new (w1.drewN _) _ _, Below.alloc (w := w1.drewN _) (below_drewN HB1.out _) HB1.out.size _⟩
end Go.Proofs.Ytpedajjmbdjfiaa
