import Derived.Test.YtpedajjmbdjfiaaPolyG
import Derived.Test.YtpedajjmbdjfiaaPolyH
namespace Go.Proofs.Ytpedajjmbdjfiaa
open Go.RowKit
set_option linter.unusedVariables false

def put8 (l : List Int) (o : Nat) (v : Int) : List Int := put4 (put4 l o (v % 4294967296)) (o + 4) (v / 4294967296)

set_option maxHeartbeats 800000 in
theorem putWord64_any (g : Nat) (t : TypeId) (l : List Int) (off n c : Nat) (v : Int) (w : World) (hb : Blk w g t (IV .u8 l).toArray) (hv : 0 ≤ v ∧ v < 18446744073709551616) (hn : 8 ≤ n) (hc : n ≤ c) (hm : c ≤ 9223372036854775807) (hl : off + 8 ≤ l.length) :
    Calls Try.prog 41 #[.slice (some ⟨g, off, none⟩) n c, .int .u64 v] w fun e w' => e = .returned (.tuple #[]) ∧ Blk w' g t (IV .u8 (put8 l off v)).toArray ∧ w.grownBy w' (some g) := by
  have lo : 0 ≤ v % 4294967296 ∧ v % 4294967296 < 4294967296 := by omega
  have hi : 0 ≤ v / 4294967296 ∧ v / 4294967296 < 4294967296 := by omega
  have P0 := Lib.hid (fun W (h : Blk W g t (IV .u8 l).toArray) => putWord32_any g t l off n c (v % 4294967296) W h lo (by omega) (by omega) (by omega))
  have P1 := Lib.hid (fun W (h : Blk W g t (IV .u8 (put4 l off (v % 4294967296))).toArray) => putWord32_any g t (put4 l off (v % 4294967296)) (off + 4) (n - 4) (c - 4) (v / 4294967296) W h hi (by omega) (by omega) (by rw [put4_length l off _ (by omega)]; omega))
  have hS : ∀ W : World, (Instr.slice 27 (.slice (some ⟨g, off, none⟩) n c) (some (.int .i64 4)) none none).run Try.prog W = .ok (.slice (some ⟨g, off + 4, none⟩) (n - 4) (c - 4)) W := fun W => by
    rw [show ((4 : Int)) = ((4 : Nat) : Int) from rfl, run_slice_l (P := Try.prog) W 27 (some ⟨g, off, none⟩) n c (by rw [elem_u8]; exact Try.underlying27) .i64 ((4 : Nat) : Int) (by omega) (by omega), elem_u8]
    rw [run_sizeOf_u8]
    simp [sliced, Addr.add, show ¬ c = 4 by omega]
  have w0 : IntKind.u32.wrap v = v % 4294967296 := by rw [IntKind.wrap_u32]
  have w1 : IntKind.u32.wrap (v / 4294967296) = v / 4294967296 := by rw [IntKind.wrap_u32]; omega
  have HB := Lib.hid hb
  clear hb
  go_enter Try.func41, Try.ntmps41
  go_wp2_with fail
  refine (P0.out _ HB.out).mono ?_
  rintro e wa ⟨rfl, b1, g1⟩
  have B1 := Lib.hid b1
  have G1 := Lib.hid g1
  clear b1 g1
  go_wp2_with fail
  refine (P1.out _ B1.out).mono ?_
  rintro e wb ⟨rfl, b2, g2⟩
  have B2 := Lib.hid b2
  have G2 := Lib.hid (only_trans G1.out g2)
  clear b2 g2
  go_wp2_with fail
  exact bodyPost_end (v := .tuple #[]) (results_none (by rfl) _ _ _) (by rfl) ⟨rfl, B2.out, G2.out⟩
end Go.Proofs.Ytpedajjmbdjfiaa
