import Derived.Test.YtpedajjmbdjfiaaPolyI
import Derived.Deep.RegionHeld3
import Derived.Deep.DeepCutAuto
namespace Go.Proofs.Ytpedajjmbdjfiaa
open Go.RowKit
set_option linter.unusedVariables false
set_option linter.unusedSimpArgs false

theorem arr16_len : Try.prog.arrayLen 25 = 16 := by kernel_rfl
theorem arr16_elem : Try.prog.elem 25 = 5 := by kernel_rfl
theorem slice_arr16_8 (g : Nat) (w : World) :
    (Instr.sliceAt 25 (.pointer (some ⟨g, 0, none⟩)) none (some (.int .i64 8)) none).run Try.prog w = .ok (.slice (some ⟨g, 0, none⟩) 8 16) w := by
  rw [run_sliceAt_array_h (P := Try.prog) w 25 ⟨g, 0, none⟩ (by rw [arr16_len, arr16_elem]; exact Try.underlying25) .i64 8 (by omega) (by rw [arr16_len]; omega), arr16_elem, run_sizeOf_u8, arr16_len]
  simp [slicedAt, Addr.add]
theorem slice_arr16_from8 (g : Nat) (w : World) :
    (Instr.sliceAt 25 (.pointer (some ⟨g, 0, none⟩)) (some (.int .i64 8)) none none).run Try.prog w = .ok (.slice (some ⟨g, 8, none⟩) 8 8) w := by
  rw [run_sliceAt_array_l (P := Try.prog) w 25 ⟨g, 0, none⟩ (by rw [arr16_len, arr16_elem]; exact Try.underlying25) .i64 8 (by omega) (by rw [arr16_len]; omega), arr16_elem, run_sizeOf_u8, arr16_len]
  simp [slicedAt, Addr.add]
/-- Sixteen bytes of a number. -/
def tg (n : Nat) : List Int := put8 (put8 (List.replicate 16 0) 0 ((n % 18446744073709551616 : Nat) : Int)) 8 ((n / 18446744073709551616 % 18446744073709551616 : Nat) : Int)

theorem tag_val (r0 r1 z0 z1 R : Nat) (h : r0 + r1 * 18446744073709551616 = R) :
    (r0 + z0) % 18446744073709551616 = (R + (z0 + z1 * 18446744073709551616)) % 18446744073709551616 ∧ (r1 + z1 + (r0 + z0) / 18446744073709551616) % 18446744073709551616 = (R + (z0 + z1 * 18446744073709551616)) / 18446744073709551616 % 18446744073709551616 := by
  subst h
  constructor <;> omega

set_option maxHeartbeats 1600000 in
theorem tag_any (ga acc f0 f1 z0 z1 : Nat) (w : World) (ha : Au w ga acc f0 f1 z0 z1) (hz0 : z0 < 18446744073709551616) (hz1 : z1 < 18446744073709551616) :
    Calls Try.prog 28 #[.pointer (some ⟨ga, 0, none⟩)] w fun e w' =>
      e = .returned (.agg (IV .u8 (tg (acc % 1361129467683753853853498429727072845819 % 340282366920938463463374607431768211456 + (z0 + z1 * 18446744073709551616)))).toArray) ∧ Below w.heap.size w w' := by
  obtain ⟨s0, s1, s2, hb, h0, h1, hv, hm⟩ := ha.words
  have CR := Lib.hid (fun W => reduce_any s0 s1 s2 h0 h1 _ rfl (by omega) W)
  obtain ⟨R, hR⟩ : ∃ R, R = acc % 1361129467683753853853498429727072845819 % 340282366920938463463374607431768211456 := ⟨_, rfl⟩
  rw [hm, ← hR] at CR
  rw [← hR]
  clear hR hm hv
  have HB := Lib.hid hb
  have CR' := CR
  clear ha hb CR
  obtain ⟨n0, hn0⟩ : ∃ n, n = (R + (z0 + z1 * 18446744073709551616)) % 18446744073709551616 := ⟨_, rfl⟩
  obtain ⟨n1, hn1⟩ : ∃ n, n = (R + (z0 + z1 * 18446744073709551616)) / 18446744073709551616 % 18446744073709551616 := ⟨_, rfl⟩
  have hout : tg (R + (z0 + z1 * 18446744073709551616)) = put8 (put8 (List.replicate 16 0) 0 n0) 8 n1 := by rw [hn0, hn1]; rfl
  rw [hout]
  have l8 : (put8 (List.replicate 16 0) 0 (n0 : Int)).length = 16 := by unfold put8; rw [put4_length _ _ _ (by rw [put4_length _ _ _ (by simp)]; simp), put4_length _ _ _ (by simp)]; simp
  have l16 : (put8 (put8 (List.replicate 16 0) 0 (n0 : Int)) 8 (n1 : Int)).length = 16 := by rw [put8, put4_length _ _ _ (by rw [put4_length _ _ _ (by rw [l8]; omega), l8]; omega), put4_length _ _ _ (by rw [l8]; omega)]; exact l8
  obtain ⟨OUT, hOUT⟩ : ∃ OUT, OUT = put8 (put8 (List.replicate 16 0) 0 (n0 : Int)) 8 (n1 : Int) := ⟨_, rfl⟩
  rw [← hOUT]
  rw [← hOUT] at l16
  have SOUT := Lib.hid (show (IV .u8 OUT).toArray.size = 16 by simp [IV, l16])
  have AOUT := Lib.hid (show (IV .u8 OUT).toArray.all (·.oneCell') = true by simp [IV, Value.oneCell'])
  have I16 := Lib.hid (show (Try.prog.info? 25).map (·.size) = some 16 by kernel_rfl)
  have HOUT := Lib.hid hOUT
  have L8 := Lib.hid l8
  clear hOUT l8 l16
  have N0 := Lib.hid hn0
  have N1 := Lib.hid hn1
  clear hn0 hn1 hout
  go_enter Try.func28, Try.ntmps28
  go_upto_region 1 with (fail)
  have ko : Blk (w.alloc (.cells #[.int .u8 0, .int .u8 0, .int .u8 0, .int .u8 0, .int .u8 0, .int .u8 0, .int .u8 0, .int .u8 0, .int .u8 0, .int .u8 0, .int .u8 0, .int .u8 0, .int .u8 0, .int .u8 0, .int .u8 0, .int .u8 0] 25)) w.heap.size 25 (IV .u8 (List.replicate 16 0)).toArray := Blk.new w _ _
  have ka := HB.out.alloc (.cells #[.int .u8 0, .int .u8 0, .int .u8 0, .int .u8 0, .int .u8 0, .int .u8 0, .int .u8 0, .int .u8 0, .int .u8 0, .int .u8 0, .int .u8 0, .int .u8 0, .int .u8 0, .int .u8 0, .int .u8 0, .int .u8 0] 25)
  have bw : Below w.heap.size w (w.alloc (.cells #[.int .u8 0, .int .u8 0, .int .u8 0, .int .u8 0, .int .u8 0, .int .u8 0, .int .u8 0, .int .u8 0, .int .u8 0, .int .u8 0, .int .u8 0, .int .u8 0, .int .u8 0, .int .u8 0, .int .u8 0, .int .u8 0] 25)) := (Below.refl _ _).alloc (Nat.le_refl _) _
  obtain ⟨gO, hgO⟩ : ∃ g, g = w.heap.size := ⟨_, rfl⟩
  have HGO := Lib.hid hgO
  rw [← hgO] at ko bw ⊢
  clear hgO
  show Code.wp _ _ _ _ (w.alloc (.cells #[.int .u8 0, .int .u8 0, .int .u8 0, .int .u8 0, .int .u8 0, .int .u8 0, .int .u8 0, .int .u8 0, .int .u8 0, .int .u8 0, .int .u8 0, .int .u8 0, .int .u8 0, .int .u8 0, .int .u8 0, .int .u8 0] 25))
  generalize w.alloc (.cells #[.int .u8 0, .int .u8 0, .int .u8 0, .int .u8 0, .int .u8 0, .int .u8 0, .int .u8 0, .int .u8 0, .int .u8 0, .int .u8 0, .int .u8 0, .int .u8 0, .int .u8 0, .int .u8 0, .int .u8 0, .int .u8 0] 25) = w2 at ko ka bw ⊢
  have KO := Lib.hid ko
  have KAr := Lib.hid (show ∀ W, Below w2.heap.size w2 W → W.cell? ⟨ga, 0, none⟩ = some (.int .u64 s0) ∧ W.cell? ⟨ga, 1, none⟩ = some (.int .u64 s1) ∧ W.cell? ⟨ga, 2, none⟩ = some (.int .u64 s2) ∧ W.cell? ⟨ga, 5, none⟩ = some (.int .u64 z0) ∧ W.cell? ⟨ga, 6, none⟩ = some (.int .u64 z1) from fun W h => ⟨(ka.below h ka.lt).cell 0, (ka.below h ka.lt).cell 1, (ka.below h ka.lt).cell 2, (ka.below h ka.lt).cell 5, (ka.below h ka.lt).cell 6⟩)
  have BW := Lib.hid bw
  have lO := ko.lt
  clear ko ka bw HB
  have bIr : Below w2.heap.size w2 w2.drew := ⟨rfl, rfl, rfl, Nat.le_refl _, fun _ _ => rfl⟩
  have HBIr := Lib.hid bIr
  have lIr : w2.drew.heap.size = w2.heap.size := rfl
  have CP := Lib.hid (fun (r0 r1 : Nat) (h : r0 < 18446744073709551616) W => plus_any r0 r1 z0 z1 h hz0 W)
  have TV := Lib.hid (fun r0 r1 h => tag_val r0 r1 z0 z1 R h)
  clear bIr
  go_cut [3] (fun p wx => ∃ gN, p = .pointer (some ⟨gN, 0, none⟩) ∧ w2.heap.size ≤ gN ∧ Blk wx gN 72 #[.int .u64 n0, .int .u64 n1] ∧ Below w2.heap.size w2 wx)
  case first =>
   go_region_held3 (fun w' => w'.cell? ⟨ga, 0, none⟩ = some (.int .u64 s0) ∧ w'.cell? ⟨ga, 1, none⟩ = some (.int .u64 s1) ∧ w'.cell? ⟨ga, 2, none⟩ = some (.int .u64 s2) ∧ w'.cell? ⟨ga, 5, none⟩ = some (.int .u64 z0) ∧ w'.cell? ⟨ga, 6, none⟩ = some (.int .u64 z1)) (first
    | exact KAr.out _ Er
    | exact KAr.out _ Br
    | exact KAr.out _ HBIr.out
    | exact KAr.out _ (Below.setCell (Below.setCell Er Br.size _) Br.size _)
    | exact KAr.out _ (Below.setCell (Below.setCell Er (Nat.le_refl _) _) (Nat.le_refl _) _)
    | exact KAr.out _ (Below.alloc HBIr.out (Nat.le_refl _) _)
    | exact KAr.out _ (Below.alloc Br Br.size _)
    | exact KAr.out _ (Below.alloc Er Er.size _)
    | (go_keep; done)) (first
    | (go_at_call 39
       (with_reducible refine (CR'.out _).mono ?_)
       rintro e war ⟨r0, r1, rfl, hr0, hr1, hrv, b3⟩
       have PP := Lib.hid (fun W => CP.out r0 r1 hr0 W)
       rw [(TV.out r0 r1 hrv).1, (TV.out r0 r1 hrv).2, ← N0.out, ← N1.out] at PP
       have Br : Below w2.heap.size w2 war := by first | exact HBIr.out.trans (b3.mono (Nat.le_refl _)) | exact (HBIr.out.alloc (Nat.le_refl _) _).trans (b3.mono (by simp))
       try (have n3 : Blk war w2.heap.size 72 #[.int .u64 0, .int .u64 0] := Blk.below (Blk.new w2.drew 72 #[.int .u64 0, .int .u64 0]) b3 (by simp)))
    | (go_at_call 40
       (with_reducible refine (PP.out _).mono ?_)
       rintro e wcr ⟨rfl, b5⟩
       have Er : Below w2.heap.size w2 wcr := by first | exact Br.trans (b5.mono Br.size) | exact (Br.alloc Br.size _).trans (b5.mono (by have := Br.size; simp; omega))
       try (have n5 : Blk wcr _ 72 #[.int .u64 0, .int .u64 0] := Blk.below n3 b5 n3.lt)
       try (have n5 : Blk wcr war.heap.size 72 #[.int .u64 0, .int .u64 0] := Blk.below (Blk.new war 72 #[.int .u64 0, .int .u64 0]) b5 (by simp))
       try (have v50 := n5.cell 0; have v51 := n5.cell 1; have f50 := n5.frozen 0; have f51 := n5.frozen 1)))
   all_goals
     go_wp2_with fail
     go_meet
     first
       | exact ⟨_, rfl, Er.size, Blk.new wcr _ _, Er.alloc Er.size _⟩
       | exact ⟨_, rfl, Br.size, (n5.set_ 0 _).set_ 1 _, Below.setCell (Below.setCell Er Br.size _) Br.size _⟩
       | exact ⟨_, rfl, Nat.le_refl _, (n5.set_ 0 _).set_ 1 _, Below.setCell (Below.setCell Er (Nat.le_refl _) _) (Nat.le_refl _) _⟩
  case rest =>
    obtain ⟨gN, rfl, hgN, bN, bW⟩ := hcut
    rename World => w4
    go_upto_region 3 with (fail)
    have kt : Blk (w4.alloc (.cells #[.int .u8 0, .int .u8 0, .int .u8 0, .int .u8 0, .int .u8 0, .int .u8 0, .int .u8 0, .int .u8 0, .int .u8 0, .int .u8 0, .int .u8 0, .int .u8 0, .int .u8 0, .int .u8 0, .int .u8 0, .int .u8 0] 25)) w4.heap.size 25 (IV .u8 (List.replicate 16 0)).toArray := Blk.new w4 _ _
    have ko := (KO.out.below bW KO.out.lt).alloc (.cells #[.int .u8 0, .int .u8 0, .int .u8 0, .int .u8 0, .int .u8 0, .int .u8 0, .int .u8 0, .int .u8 0, .int .u8 0, .int .u8 0, .int .u8 0, .int .u8 0, .int .u8 0, .int .u8 0, .int .u8 0, .int .u8 0] 25)
    have kn := bN.alloc (.cells #[.int .u8 0, .int .u8 0, .int .u8 0, .int .u8 0, .int .u8 0, .int .u8 0, .int .u8 0, .int .u8 0, .int .u8 0, .int .u8 0, .int .u8 0, .int .u8 0, .int .u8 0, .int .u8 0, .int .u8 0, .int .u8 0] 25)
    have hs0 : gO ≤ w2.heap.size := by have := BW.out.size; have := HGO.out; omega
    have bw := (BW.out.trans (bW.mono hs0)).alloc (Nat.le_trans hs0 bW.size) (.cells #[.int .u8 0, .int .u8 0, .int .u8 0, .int .u8 0, .int .u8 0, .int .u8 0, .int .u8 0, .int .u8 0, .int .u8 0, .int .u8 0, .int .u8 0, .int .u8 0, .int .u8 0, .int .u8 0, .int .u8 0, .int .u8 0] 25)
    have nO : gO ≠ w4.heap.size := by have := bW.size; omega
    have nN : gN ≠ w4.heap.size := by have := bN.lt; omega
    have lT : gO ≤ w4.heap.size := by have := bW.size; omega
    obtain ⟨gT, hgT⟩ : ∃ g, g = w4.heap.size := ⟨_, rfl⟩
    rw [← hgT] at kt nO nN lT ⊢
    clear hgT
    show Code.wp _ _ _ _ (w4.alloc (.cells #[.int .u8 0, .int .u8 0, .int .u8 0, .int .u8 0, .int .u8 0, .int .u8 0, .int .u8 0, .int .u8 0, .int .u8 0, .int .u8 0, .int .u8 0, .int .u8 0, .int .u8 0, .int .u8 0, .int .u8 0, .int .u8 0] 25))
    generalize w4.alloc (.cells #[.int .u8 0, .int .u8 0, .int .u8 0, .int .u8 0, .int .u8 0, .int .u8 0, .int .u8 0, .int .u8 0, .int .u8 0, .int .u8 0, .int .u8 0, .int .u8 0, .int .u8 0, .int .u8 0, .int .u8 0, .int .u8 0] 25) = w5 at kt ko kn bw ⊢
    have s1 := slice_arr16_8 gT
    have s2 := slice_arr16_from8 gT
    have b0 : (0 : Int) ≤ n0 ∧ (n0 : Int) < 18446744073709551616 := by have : n0 < 18446744073709551616 := N0.out ▸ m64_lt _; omega
    have b1 : (0 : Int) ≤ n1 ∧ (n1 : Int) < 18446744073709551616 := by have : n1 < 18446744073709551616 := N1.out ▸ m64_lt _; omega
    have l8 := L8.out
    have P0 := Lib.hid (putWord64_any gT 25 (List.replicate 16 0) 0 8 16 n0 w5.drew kt.drew b0 (by omega) (by omega) (by omega) (by simp))
    have P1 := Lib.hid (fun W (h : Blk W gT 25 (IV .u8 (put8 (List.replicate 16 0) 0 n0)).toArray) => putWord64_any gT 25 _ 8 8 8 n1 W h b1 (by omega) (by omega) (by omega) (by rw [l8]; omega))
    have c0 : w5.cell? ⟨gN, 0, none⟩ = some (.int .u64 n0) := kn.cell 0
    have KO5 := Lib.hid ko
    have KN5 := Lib.hid kn
    have BW5 := Lib.hid bw
    clear hs0 bW bN kt ko kn bw b0 b1 l8 KO KAr BW HBIr CP TV CR' lIr lO
    go_region_with (first
      | (go_at_call 41
         (with_reducible refine P0.out.mono ?_)
         rintro e w6 ⟨rfl, bt, g6⟩))
    all_goals
      have kt := Lib.hid bt
      have c1 : w6.cell? ⟨gN, 1, none⟩ = some (.int .u64 n1) := (KN5.out.drew.grown g6 (by simp [nN])).cell 1
      have KO6 := Lib.hid (KO5.out.drew.grown g6 (by simp [nO]))
      have BW6 := Lib.hid (grown_below (BW5.out.drew) g6 (show gO ≤ w5.heap.size by have := BW5.out.size; have := HGO.out; omega) lT)
      have P2 := Lib.hid (P1.out w6.drew bt.drew)
      clear bt g6
      have BW6d : gO ≤ w6.heap.size := by have := BW6.out.size; have := HGO.out; omega
      clear P0 P1 c0
      go_upto_region 4 with (fail)
      go_region_with (first
        | (go_at_call 41
           (with_reducible refine P2.out.mono ?_)
           rintro e w7 ⟨rfl, bt, g7⟩))
      all_goals
        rw [← HOUT.out] at bt
        have KT7 := Lib.hid bt
        have KO7 := Lib.hid (KO6.out.drew.grown g7 (by simp [nO]))
        have BW7 := Lib.hid (grown_below (BW6.out.drew) g7 BW6d lT)
        clear bt g7
        go_wp2_with (first
          | refine wpList_load_row rfl 25 (.tmp 4) rfl gT rfl 25 (IV .u8 OUT).toArray (0, 0) _ KT7.out Try.underlying25 rfl (by rw [SOUT.out]; exact I16.out) ?_
          | refine wpList_store_row rfl 25 (.tmp 2) (.tmp 23) rfl gO (IV .u8 OUT).toArray rfl rfl 25 _ KO7.out (by rw [SOUT.out]; exact I16.out) (by rw [SOUT.out]; rfl) AOUT.out ?_)
        refine bodyPost_ret (v := .agg (IV .u8 OUT).toArray) (results_cell_row rfl _ _ gO 25 _ (0, 0) _ rfl (Blk.row KO7.out _) Try.underlying25 rfl (by rw [SOUT.out]; exact I16.out)) rfl ⟨rfl, ?_⟩
        rw [← HGO.out]
        exact below_setRow BW7.out (Nat.le_refl _) _
end Go.Proofs.Ytpedajjmbdjfiaa
