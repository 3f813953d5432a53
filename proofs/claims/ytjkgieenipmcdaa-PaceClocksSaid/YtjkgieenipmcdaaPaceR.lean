/-
  PaceClocks.
-/
import Derived.Test.YtjkgieenipmcdaaPaceD
import Derived.Test.YtjkgieenipmcdaaPaceP
import Derived.Test.YtjkgieenipmcdaaPaceQ
import Derived.Deep.RegionHeld3
import Derived.ChangeKeysEq
namespace Go.Proofs.Ytjkgieenipmcdaa
open Go.RowKit
set_option linter.unusedVariables false

theorem slice_uptoT (T E : TypeId) (size : Nat) (hT : Try.prog.underlying T = some (.slice E)) (hel : Try.prog.elem T = E) (hs : ∀ w, (sizeOf E).run Try.prog w = .ok size w) (A : Option Addr) (n c k : Nat) (kd : IntKind) (z : Int) (hz : z = k) (hk : k ≤ c) (w : World) :
    (Instr.slice T (.slice A n c) none (some (.int kd z)) none).run Try.prog w = .ok (.slice A k c) w := by
  subst hz
  rw [run_slice_h (P := Try.prog) w T A n c (by rw [hel]; exact hT) kd (k : Int) (by omega) (by omega), hel, hs]
  cases A <;> simp [sliced, Addr.add]
theorem eq4 (a b c d : Int) (w : World) : (Op.equalIn 10000 29 (.agg #[.int .u64 a, .int .u64 b, .int .u64 c, .int .u64 d]) (.agg #[.int .u64 a, .int .u64 b, .int .u64 c, .int .u64 d])).run Try.prog w = .ok true w := by
  have hs : (Try.prog.info? 26).map (·.size) = some 1 := by kernel_rfl
  obtain ⟨i, hi⟩ : ∃ i, Try.prog.info? 26 = some i := by
    cases h : Try.prog.info? 26 with
    | none => rw [h] at hs; cases hs
    | some i => exact ⟨i, rfl⟩
  have hsz : i.size = 1 := by rw [hi] at hs; injection hs
  have hc : Try.prog.cellsOf 26 = 1 := by kernel_rfl
  have hr : List.range 4 = [0, 1, 2, 3] := by decide
  rw [run_equalIn_array w 9999 _ _ Try.underlying29 hi, hc, hr]
  have h1 : ∀ (x : Int) (w : World), (Op.equalIn 9999 26 (.int .u64 x) (.int .u64 x)).run Try.prog w = .ok true w := fun x w => by
    rw [run_equalIn_int w 9998 _ _ .u64 _ _ Try.underlying26]
    simp
  simp [Op.eqItems, part, sizeOf, typeInfo, hi, hsz, h1]
theorem elem_pairs : Try.prog.elem 22 = 27 := by kernel_rfl
theorem size_pair (w : World) : (sizeOf 27).run Try.prog w = .ok 2 w := by
  have h : (Try.prog.info? 27).map (·.size) = some 2 := by kernel_rfl
  cases hi : Try.prog.info? 27 with
  | none => rw [hi] at h; cases h
  | some i => rw [hi] at h; injection h with h; simp [sizeOf, typeInfo, hi, h]

set_option maxRecDepth 100000 in
set_option maxHeartbeats 6400000 in
theorem clocks_walk (A : Option Addr) (c : Nat) (l : List (Int × Int)) (tr : Int) (w : World) (hr : RdT 2 PairC PairOk w A l) (hlc : l.length ≤ c) (hcm : c ≤ 9223372036854775807) (hA : A = none → c = 0) (ht : (Lit.int .i64 tr).wf = true) :
    Calls Try.prog 3 #[.slice A l.length c, .int .i64 tr] w fun r w' => r = .returned (.bool true) ∧ Below w.heap.size w w' := by
  obtain ⟨L, hL⟩ : ∃ L, L = l.take 60 := ⟨_, rfl⟩
  have hLr : RdT 2 PairC PairOk w A L := by rw [hL]; exact hr.upto 60
  have hLl : L.length = min l.length 60 := by rw [hL, List.length_take]; omega
  have hsl := slice_uptoT 22 27 2 Try.underlying22 elem_pairs size_pair A l.length c L.length .i64 (L.length : Int) rfl (by omega)
  have Z1 : (if (l.length : Int) < 60 then (l.length : Int) else 60) = (L.length : Int) := by rw [hLl]; split <;> omega
  have Z2 : (if (60 : Int) < (l.length : Int) then (60 : Int) else (l.length : Int)) = (L.length : Int) := by rw [hLl]; split <;> omega
  have hLc : L.length ≤ c := by omega
  have HR := Lib.hid hLr
  have okC := ckRun_ok L hLr.each
  have HT := Lib.hid ht
  clear hr hA hL hLl hLr ht
  go_enter Try.func3, Try.ntmps3
  go_wp2_with fail
  refine (awake8_any _).mono ?_
  rintro e w1 ⟨rfl, b1⟩
  go_wp2_with fail
  refine (NewClock_any _).mono ?_
  rintro e w2 ⟨g, rfl, j0, l1, b2⟩
  have hz := b1.size
  have bb := b1.trans (b2.mono hz)
  have hm : w.heap.size ≤ g := by omega
  clear b1 b2
  go_wp2_with fail
  clear hsl Z1 Z2
  go_loopw [28] (fun i wr => ∃ (k : Nat), k ≤ L.length ∧ i = .int .i64 k ∧ Clk wr g (ckRun (L.take k)) ∧ Below w.heap.size w wr) (fun i _ => L.length - (intOf i).toNat)
  case atStart => exact ⟨0, by omega, rfl, j0, bb⟩
  case round =>
    obtain ⟨k, hk, rfl, j1, b1⟩ := hrel
    by_cases hlt : k < L.length
    · obtain ⟨b, off, x, rfl, hb, hx, hok, hc⟩ := (HR.out.below b1).at_ hlt
      have q0 := hc 0 (by omega)
      have q1 := hc 1 (by omega)
      have eN := ckRun_take hx
      clear hc hx
      obtain ⟨x, d⟩ := x
      obtain ⟨⟨x0, x1⟩, ⟨d0, d1⟩⟩ := hok
      simp [PairC] at q0 q1 x0 x1 d0 d1
      simp only at eN
      have okk : CkOk (ckRun (L.take k)) := ckRun_ok _ fun p hp => HR.out.each p (List.mem_of_mem_take hp)
      have S := Sample_any g (ckRun (L.take k)) x d _ (Blk.alloc j1 (.cells #[.int .u64 x, .int .u64 d] 27)) okk x0 x1 d0 d1
      rw [← eN] at S
      have HS := Lib.hid S
      have BB := Lib.hid b1
      clear j1 b1 S eN okk
      go_wp2_with fail
      refine HS.out.mono ?_
      rintro e w3 ⟨rfl, j2, g2⟩
      have bb2 := below_gb (BB.out.alloc BB.out.size (.cells #[.int .u64 x, .int .u64 d] 27)) g2 hm (by have := BB.out.size; simp; omega)
      clear q0 q1 g2
      go_wp2_with fail
      go_roundw
      case rel => exact ⟨k + 1, by omega, by go_num, j2, bb2⟩
      case measure => simp [intOf]; omega
    · have hd : decide (k < L.length) = false := by simpa using hlt
      have eC : ckRun (L.take k) = ckRun L := by rw [show k = L.length by omega, List.take_length]
      rw [eC] at j1
      have TC := rTold_any A c L wr (HR.out.below b1) hLc hcm
      clear eC j0 bb
      generalize ckRun L = C at *
      have HTC := Lib.hid TC
      have J1 := Lib.hid j1
      have hg1 := j1.lt
      have OK := Lib.hid okC
      have BB := Lib.hid b1
      clear TC j1 okC b1
      go_wp2_with fail
      refine HTC.out.mono ?_
      rintro e w3 ⟨rfl, b3⟩
      have j3 := J1.out.below b3 hg1
      have bb3 := BB.out.trans (b3.mono BB.out.size)
      clear b3 HTC
      unfold AV4
      go_wp2_with fail
      have KT := Blk.new w3 29 #[.int .u64 C.la, .int .u64 C.le, .int .u64 C.sm, .int .u64 C.va]
      have j4 : Clk (w3.alloc (.cells #[.int .u64 C.la, .int .u64 C.le, .int .u64 C.sm, .int .u64 C.va] 29)) g C := Blk.alloc j3 _
      have bb4 := bb3.alloc bb3.size (.cells #[.int .u64 C.la, .int .u64 C.le, .int .u64 C.sm, .int .u64 C.va] 29)
      obtain ⟨gT, hgT⟩ : ∃ n, n = w3.heap.size := ⟨_, rfl⟩
      rw [← hgT] at KT ⊢
      clear j3 bb3 hgT J1 BB
      generalize (w3.alloc (.cells #[.int .u64 C.la, .int .u64 C.le, .int .u64 C.sm, .int .u64 C.va] 29)) = w4 at KT j4 bb4 ⊢
      refine (Told_clock g C _ j4).mono ?_
      rintro e w5 ⟨rfl, q5, h5⟩
      have KT5 : Blk w5 gT 29 #[.int .u64 C.la, .int .u64 C.le, .int .u64 C.sm, .int .u64 C.va] := by rw [h5]; exact KT
      have j5 : Clk w5 g C := by rw [h5]; exact j4.drewN _
      have bb5 : Below w.heap.size w w5 := by rw [h5]; exact below_drewN bb4 _
      clear h5 KT j4 bb4
      have ltT := KT5.lt
      have ltg := j5.lt
      have HKT := Lib.hid KT5
      have HJ := Lib.hid j5
      have HB := Lib.hid bb5
      clear KT5 j5 bb5
      go_wp2_with fail
      refine (Sample_nil _ _ _).mono ?_
      rintro e w6 ⟨rfl, rfl⟩
      go_wp2_with fail
      refine (CTold_nil _).mono ?_
      rintro e w7 ⟨rfl, rfl⟩
      have C1 := Lib.hid (show ∀ W, Below w5.heap.size w5 W → Calls Try.prog 13 #[.pointer (some ⟨g, 0, none⟩), .int .i64 tr] W fun r w' => r = .returned (.int .u64 (ckW C tr)) ∧ Below w5.heap.size w5 w' from fun W h => (Wait_clock g C tr W (HJ.out.below h ltg) OK.out HT.out).mono fun r w' ⟨a, q, b⟩ => ⟨a, by rw [b]; exact below_drewN h q⟩)
      have C2 := Lib.hid (show ∀ W, Below w5.heap.size w5 W → Calls Try.prog 14 #[.agg #[.int .u64 C.la, .int .u64 C.le, .int .u64 C.sm, .int .u64 C.va], .int .i64 tr] W fun r w' => r = .returned (.int .u64 (ckW C tr)) ∧ Below w5.heap.size w5 w' from fun W h => (rWait_any C tr W OK.out HT.out).mono fun r w' ⟨a, b⟩ => ⟨a, h.trans (b.mono h.size)⟩)
      have C3 := Lib.hid (show ∀ W, Below w5.heap.size w5 W → Calls Try.prog 15 #[.pointer (some ⟨g, 0, none⟩)] W fun r w' => r = .returned (.int .u64 (ckL C)) ∧ Below w5.heap.size w5 w' from fun W h => (Lost_clock g C W (HJ.out.below h ltg) OK.out).mono fun r w' ⟨a, q, b⟩ => ⟨a, by rw [b]; exact below_drewN h q⟩)
      have C4 := Lib.hid (show ∀ W, Below w5.heap.size w5 W → Calls Try.prog 16 #[.agg #[.int .u64 C.la, .int .u64 C.le, .int .u64 C.sm, .int .u64 C.va]] W fun r w' => r = .returned (.int .u64 (ckL C)) ∧ Below w5.heap.size w5 w' from fun W h => (rLost_any C W OK.out).mono fun r w' ⟨a, b⟩ => ⟨a, h.trans (b.mono h.size)⟩)
      have C5 := Lib.hid (show ∀ W, Below w5.heap.size w5 W → Calls Try.prog 13 #[.pointer none, .int .i64 3] W fun r w' => r = .returned (.int .u64 0) ∧ Below w5.heap.size w5 w' from fun W h => (CWait_nil 3 W).mono fun r w' ⟨a, b⟩ => ⟨a, b ▸ h⟩)
      have C6 := Lib.hid (show ∀ W, Below w5.heap.size w5 W → Calls Try.prog 15 #[.pointer none] W fun r w' => r = .returned (.int .u64 0) ∧ Below w5.heap.size w5 w' from fun W h => (CLost_nil W).mono fun r w' ⟨a, b⟩ => ⟨a, b ▸ h⟩)
      have KA := Lib.hid (show ∀ W, Below w5.heap.size w5 W → W.cell? ⟨gT, 0, none⟩ = some (.int .u64 C.la) ∧ W.cell? ⟨gT, 1, none⟩ = some (.int .u64 C.le) ∧ W.cell? ⟨gT, 2, none⟩ = some (.int .u64 C.sm) ∧ W.cell? ⟨gT, 3, none⟩ = some (.int .u64 C.va) from fun W h => ⟨(HKT.out.below h ltT).cell 0, (HKT.out.below h ltT).cell 1, (HKT.out.below h ltT).cell 2, (HKT.out.below h ltT).cell 3⟩)
      generalize ckW C tr = R1 at C1 C2
      generalize ckL C = R2 at C3 C4
      have hb0 : Below w5.heap.size w5 w5.drew := ⟨rfl, rfl, rfl, Nat.le_refl _, fun _ _ => rfl⟩
      generalize C.la = c0 at *
      generalize C.le = c1 at *
      generalize C.sm = c2 at *
      generalize C.va = c3 at *
      have E4 := eq4 c0 c1 c2 c3
      go_wp2_with fail
      go_region_held3 (fun w' => w'.cell? ⟨gT, 0, none⟩ = some (.int .u64 c0) ∧ w'.cell? ⟨gT, 1, none⟩ = some (.int .u64 c1) ∧ w'.cell? ⟨gT, 2, none⟩ = some (.int .u64 c2) ∧ w'.cell? ⟨gT, 3, none⟩ = some (.int .u64 c3)) (first
        | exact KA.out _ (by assumption)
        | (go_keep; done)) (first
        | (go_at_call 13
           (with_reducible refine (C1.out _ (by assumption)).mono ?_)
           rintro e wa ⟨rfl, ba⟩)
        | (go_at_call 14
           (with_reducible refine (C2.out _ (by assumption)).mono ?_)
           rintro e wb ⟨rfl, bb⟩)
        | (go_at_call 15
           (with_reducible refine (C3.out _ (by assumption)).mono ?_)
           rintro e wc ⟨rfl, bc⟩)
        | (go_at_call 16
           (with_reducible refine (C4.out _ (by assumption)).mono ?_)
           rintro e wd ⟨rfl, bd⟩)
        | (go_at_call 13
           (with_reducible refine (C5.out _ (by assumption)).mono ?_)
           rintro e we ⟨rfl, be⟩)
        | (go_at_call 15
           (with_reducible refine (C6.out _ (by assumption)).mono ?_)
           rintro e wf ⟨rfl, bf⟩))
      go_wp2_with fail
      go_ret
      exact ⟨rfl, HB.out.trans (Below.mono (by assumption) HB.out.size)⟩
end Go.Proofs.Ytjkgieenipmcdaa
