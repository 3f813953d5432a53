/-
  frame.Bytes on the two frames of the examples; the law's first question.
-/
import Derived.Test.YtfimngmpkckcdaaDoorFrameD
namespace Go.Proofs.YtfimngmpkckcdaaDoor
open Go.RowKit
set_option linter.unusedVariables false
set_option linter.unusedSimpArgs false

theorem venc_small (n : Int) (h : n < 64) (h0 : 0 ≤ n) : venc n = [n] := by
  have hv : vsize n = 1 := by unfold vsize; rw [if_pos h]
  rw [venc, hv]
  show wenc n 1 = [n]
  simp [wenc, be, vtag]
  omega
theorem num_s (A : Option Addr) (c : Nat) (P : List Int) (n : Int) (X : List Int) (base : Nat) (w : World) (ht : Tab w) (hown : Own w base A c P) (hP : P.length ≤ 1000) (hb : base ≤ w.heap.size) (h0 : 0 ≤ n) (hn : n < 64) (hX : X = P ++ [n]) :
    Calls Tryd.prog 35 #[.slice A P.length c, .int .u64 n] w fun r w' => ∃ A' c', r = .returned (.slice A' X.length c') ∧ Own w' base A' c' X ∧ Below base w w' ∧ KeepB w w' :=
  number_any A c P n X base w ht hown (by omega) hb h0 (by omega) (by rw [venc_small n hn h0]; exact hX)
set_option maxHeartbeats 1600000 in
theorem encode_1 (A : Option Addr) (c : Nat) (w : World) (ht : Tab w) (ha : Sl w A c [97, 98]) :
    Calls Tryd.prog 17 #[FV 8 4 0 0 0 true A 2 c none 0 0 none 0 0] w fun r w' => ∃ A' c', r = .returned (.slice A' 5 c') ∧ Own w' w.heap.size A' c' [11, 4, 2, 97, 98] ∧ Below w.heap.size w w' := by
  have b0 : Below w.heap.size w (w.alloc (.cells #[.int .u64 8, .int .u64 4, .int .u64 0, .int .u64 0, .int .u64 0, .bool true, .slice A 2 c, .slice none 0 0, .slice none 0 0] 28)) := (Below.refl _ _).alloc (Nat.le_refl _) _
  have K0 := Lib.hid (Blk.new w 28 #[.int .u64 8, .int .u64 4, .int .u64 0, .int .u64 0, .int .u64 0, .bool true, .slice A 2 c, .slice none 0 0, .slice none 0 0])
  have hz0 : w.heap.size ≤ (w.alloc (.cells #[.int .u64 8, .int .u64 4, .int .u64 0, .int .u64 0, .int .u64 0, .bool true, .slice A 2 c, .slice none 0 0, .slice none 0 0] 28)).heap.size := b0.size
  have HT := Lib.hid (ht.below b0)
  have SA := Lib.hid (ha.below b0)
  have CT := (fun W => typeOf_1 A c W)
  have CO := fieldsOf_any 8
  rw [show foI 8 = 53 from rfl, show knB 8 = true from rfl] at CO
  have CD := (fun D d P X base W h1 h2 h3 h4 h5 h6 => data_1 A c D d P X base W h1 h2 h3 h4 h5 h6)
  unfold FV at CT CD ⊢
  have CT' := Lib.hid CT
  have CO' := Lib.hid CO
  have CD' := Lib.hid CD
  have B0 := Lib.hid b0
  have x1 : bits .and .u8 53 1 = 1 := by decide
  have x2 : bits .and .u8 53 2 = 0 := by decide
  have x3 : bits .and .u8 53 4 = 4 := by decide
  have x4 : bits .and .u8 53 8 = 0 := by decide
  have x5 : bits .and .u8 53 32 = 32 := by decide
  clear CT CO CD b0 ht ha
  go_enter Tryd.func17, Tryd.ntmps17
  go_wp2_with fail
  generalize hW0 : (w.alloc (.cells #[.int .u64 8, .int .u64 4, .int .u64 0, .int .u64 0, .int .u64 0, .bool true, .slice A 2 c, .slice none 0 0, .slice none 0 0] 28)) = W0 at K0 hz0 HT SA B0 ⊢
  clear hW0
  refine (CT'.out _).mono ?_
  rintro r w1 ⟨rfl, b1⟩
  have k1 := K0.out.below b1 K0.out.lt
  have K1 := Lib.hid k1
  have B1 := Lib.hid b1
  have q0 := k1.cell 0
  have q1 := k1.cell 1
  have q2 := k1.cell 2
  have q3 := k1.cell 3
  have q4 := k1.cell 4
  have q5 := k1.cell 5
  have q6 := k1.cell 6
  have q7 := k1.cell 7
  have q8 := k1.cell 8
  clear b1 k1
  go_wp2_with fail
  refine (num_s none 0 [] 11 [11] W0.heap.size w1 (HT.out.below B1.out) (Own.nil _ _) (by decide) B1.out.size (by omega) (by omega) rfl).mono ?_
  rintro r w2 ⟨A2, c2, rfl, o2, b2, kp⟩
  have k2 := K0.out.below (B1.out.trans b2) K0.out.lt
  have O2 := Lib.hid o2
  have B2 := Lib.hid (B1.out.trans b2)
  have q0 := k2.cell 0
  have q1 := k2.cell 1
  have q2 := k2.cell 2
  have q3 := k2.cell 3
  have q4 := k2.cell 4
  have q5 := k2.cell 5
  have q6 := k2.cell 6
  have q7 := k2.cell 7
  have q8 := k2.cell 8
  clear o2 b2 k2
  go_wp2_with fail
  refine (CO'.out _).mono ?_
  rintro r w3 ⟨rfl, rfl⟩
  go_wp2_with fail
  refine (num_s A2 c2 [11] 4 [11, 4] W0.heap.size w2 (HT.out.below B2.out) O2.out (by decide) B2.out.size (by omega) (by omega) rfl).mono ?_
  rintro r w3 ⟨A3, c3, rfl, o3, b3, kp⟩
  have k3 := K0.out.below (B2.out.trans b3) K0.out.lt
  have O3 := Lib.hid o3
  have B3 := Lib.hid (B2.out.trans b3)
  have q0 := k3.cell 0
  have q1 := k3.cell 1
  have q2 := k3.cell 2
  have q3 := k3.cell 3
  have q4 := k3.cell 4
  have q5 := k3.cell 5
  have q6 := k3.cell 6
  have q7 := k3.cell 7
  have q8 := k3.cell 8
  clear o3 b3 k3
  go_wp2_with fail
  refine (CD'.out A3 c3 [11, 4] [11, 4, 2, 97, 98] W0.heap.size w3 (HT.out.below B3.out) O3.out (by decide) B3.out.size ⟨(Reads.below (SA.out).rd B3.out), SA.out.le⟩ rfl).mono ?_
  rintro r w4 ⟨A4, c4, rfl, o4, b4⟩
  have k4 := K0.out.below (B3.out.trans b4) K0.out.lt
  have O4 := Lib.hid o4
  have B4 := Lib.hid (B3.out.trans b4)
  have q7 := k4.cell 7
  clear o4 b4 k4
  go_wp2_with (at_builtin
               refine wpList_appX rfl (.tmp 70) (.tmp 72) rfl W0.heap.size (l := [11, 4, 2, 97, 98]) (news := []) [11, 4, 2, 97, 98] rfl rfl rfl O4.out (Rd.nil _ _) (by decide) B4.out.size ?_
               intro A5 c5 w5 o5 g5 b5
               have O5 := Lib.hid o5
               have B5 := Lib.hid (B4.out.trans b5)
               clear o5 g5 b5)
  go_ret
  exact ⟨_, _, rfl, O5.out.base_le hz0, B0.out.trans (B5.out.mono hz0)⟩
set_option maxHeartbeats 1600000 in
theorem encodeAck_2 (g : Nat) (w : World) (ht : Tab w) (h : R2 w g) :
    Calls Tryd.prog 34 #[FV 2 0 0 0 0 false none 0 0 none 0 0 (some ⟨g, 0, none⟩) 2 2] w fun r w' => ∃ A' c', r = .returned (.slice A' 7 c') ∧ Own w' w.heap.size A' c' [2, 9, 0, 1, 2, 1, 0] ∧ Below w.heap.size w w' := by
  have b0 : Below w.heap.size w ((w.alloc (.cells #[.int .u64 2, .int .u64 0, .int .u64 0, .int .u64 0, .int .u64 0, .bool false, .slice none 0 0, .slice none 0 0, .slice (some ⟨g, 0, none⟩) 2 2] 28)).alloc (.cells #[.int .u64 7, .int .u64 9] 39)) := ((Below.refl _ _).alloc (Nat.le_refl _) _).alloc (by simp) _
  have K0 := Lib.hid ((Blk.new w 28 #[.int .u64 2, .int .u64 0, .int .u64 0, .int .u64 0, .int .u64 0, .bool false, .slice none 0 0, .slice none 0 0, .slice (some ⟨g, 0, none⟩) 2 2]).alloc (.cells #[.int .u64 7, .int .u64 9] 39))
  have J0 := Lib.hid (show Blk ((w.alloc (.cells #[.int .u64 2, .int .u64 0, .int .u64 0, .int .u64 0, .int .u64 0, .bool false, .slice none 0 0, .slice none 0 0, .slice (some ⟨g, 0, none⟩) 2 2] 28)).alloc (.cells #[.int .u64 7, .int .u64 9] 39)) (w.heap.size + 1) 39 #[.int .u64 7, .int .u64 9] from by
    have := Blk.new (w.alloc (.cells #[.int .u64 2, .int .u64 0, .int .u64 0, .int .u64 0, .int .u64 0, .bool false, .slice none 0 0, .slice none 0 0, .slice (some ⟨g, 0, none⟩) 2 2] 28)) 39 #[.int .u64 7, .int .u64 9]
    simpa using this)
  have hz0 := b0.size
  have HT := Lib.hid (ht.below b0)
  have HR := Lib.hid (h.below b0)
  have B0 := Lib.hid b0
  obtain ⟨r0, r1, r2, r3, r4⟩ := h
  unfold FV
  clear b0 ht
  go_enter Tryd.func34, Tryd.ntmps34
  go_wp2_with fail
  generalize hW0 : ((w.alloc (.cells #[.int .u64 2, .int .u64 0, .int .u64 0, .int .u64 0, .int .u64 0, .bool false, .slice none 0 0, .slice none 0 0, .slice (some ⟨g, 0, none⟩) 2 2] 28)).alloc (.cells #[.int .u64 7, .int .u64 9] 39)) = W0 at K0 J0 hz0 HT HR B0 ⊢
  clear hW0 r1 r2 r3 r4
  refine (num_s none 0 [] 2 [2] W0.heap.size W0 HT.out (Own.nil _ _) (by decide) (Nat.le_refl _) (by omega) (by omega) rfl).mono ?_
  rintro r w1 ⟨A1, c1, rfl, o1, b1, kp⟩
  have O1 := Lib.hid o1
  have B1 := Lib.hid b1
  have j1 := (J0.out.below b1 J0.out.lt).cell 1
  clear o1 b1
  go_wp2_with fail
  refine (num_s A1 c1 [2] 9 [2, 9] W0.heap.size w1 (HT.out.below B1.out) O1.out (by decide) B1.out.size (by omega) (by omega) rfl).mono ?_
  rintro r w2 ⟨A2, c2, rfl, o2, b2, kp⟩
  have O2 := Lib.hid o2
  have B2 := Lib.hid (B1.out.trans b2)
  have j2 := (K0.out.below B2.out K0.out.lt).cell 3
  clear o2 b2
  go_wp2_with fail
  refine (num_s A2 c2 [2, 9] 0 [2, 9, 0] W0.heap.size w2 (HT.out.below B2.out) O2.out (by decide) B2.out.size (by omega) (by omega) rfl).mono ?_
  rintro r w3 ⟨A3, c3, rfl, o3, b3, kp⟩
  have O3 := Lib.hid o3
  have B3 := Lib.hid (B2.out.trans b3)
  have j3 := (K0.out.below B3.out K0.out.lt).cell 8
  clear o3 b3
  go_wp2_with fail
  refine (num_s A3 c3 [2, 9, 0] 1 [2, 9, 0, 1] W0.heap.size w3 (HT.out.below B3.out) O3.out (by decide) B3.out.size (by omega) (by omega) rfl).mono ?_
  rintro r w4 ⟨A4, c4, rfl, o4, b4, kp⟩
  have O4 := Lib.hid o4
  have B4 := Lib.hid (B3.out.trans b4)
  have j4 := (J0.out.below B4.out J0.out.lt).cell 0
  have j5 := (J0.out.below B4.out J0.out.lt).cell 1
  clear o4 b4
  go_wp2_with fail
  refine (num_s A4 c4 [2, 9, 0, 1] 2 [2, 9, 0, 1, 2] W0.heap.size w4 (HT.out.below B4.out) O4.out (by decide) B4.out.size (by omega) (by omega) rfl).mono ?_
  rintro r w5 ⟨A5, c5, rfl, o5, b5, kp⟩
  have O5 := Lib.hid o5
  have B5 := Lib.hid (B4.out.trans b5)
  have j6 := (J0.out.below B5.out J0.out.lt).cell 0
  have j7 := (K0.out.below B5.out K0.out.lt).cell 8
  clear o5 b5
  go_wp2_with fail
  go_loopw [4, 5, 43] (fun p l i wr => ∃ (k : Nat) (P : List Int) (A6 : Option Addr) (c6 : Nat), k ≤ 1 ∧ i = .int .i64 k ∧ p = .slice A6 P.length c6 ∧ (k = 0 → l = .int .u64 7 ∧ P = [2, 9, 0, 1, 2]) ∧ (k = 1 → P = [2, 9, 0, 1, 2, 1, 0]) ∧ Own wr W0.heap.size A6 c6 P ∧ Below W0.heap.size W0 wr) (fun _ _ i _ => 1 - (intOf i).toNat)
  case atStart => exact ⟨0, [2, 9, 0, 1, 2], A5, c5, by omega, rfl, rfl, fun _ => ⟨rfl, rfl⟩, fun h => by omega, O5.out, B5.out⟩
  case round =>
    obtain ⟨k, P, A6, c6, hk, rfl, rfl, hl, hP, hown, hbel⟩ := hrel
    have HO := Lib.hid hown
    have HB := Lib.hid hbel
    clear hown hbel
    have hk01 : k = 0 ∨ k = 1 := by omega
    rcases hk01 with rfl | rfl
    · obtain ⟨rfl, rfl⟩ := hl rfl
      have z0 : ((0 : Nat) : Int) = 0 := rfl
      rw [z0]
      obtain ⟨s0, s1, s2, s3, s4⟩ := HR.out.below HB.out
      clear z0 hl hP s1 s2
      have bl : Below wr.heap.size wr (wr.alloc (.cells #[.int .u64 4, .int .u64 4] 39)) := (Below.refl _ _).alloc (Nat.le_refl _) _
      have KK := Lib.hid (Blk.new wr 39 #[.int .u64 4, .int .u64 4])
      have HB2 := Lib.hid (HB.out.trans (bl.mono HB.out.size))
      have HO2 := Lib.hid (HO.out.below bl)
      clear bl
      go_wp2_with fail
      refine (num_s A6 c6 [2, 9, 0, 1, 2] 1 [2, 9, 0, 1, 2, 1] W0.heap.size _ (HT.out.below HB2.out) HO2.out (by decide) HB2.out.size (by omega) (by omega) rfl).mono ?_
      rintro r w7 ⟨A7, c7, rfl, o7, b7, kp⟩
      have O7 := Lib.hid o7
      have B7 := Lib.hid (HB2.out.trans b7)
      have k7 := kp _ _ _ (by decide) KK.out
      have e0 := k7.cell 0
      have e1 := k7.cell 1
      have K7 := Lib.hid k7
      clear o7 b7 k7 kp
      go_wp2_with fail
      refine (num_s A7 c7 [2, 9, 0, 1, 2, 1] 0 [2, 9, 0, 1, 2, 1, 0] W0.heap.size w7 (HT.out.below B7.out) O7.out (by decide) B7.out.size (by omega) (by omega) rfl).mono ?_
      rintro r w8 ⟨A8, c8, rfl, o8, b8, kp⟩
      have O8 := Lib.hid o8
      have B8 := Lib.hid (B7.out.trans b8)
      have k8 := kp _ _ _ (by decide) K7.out
      have e2 := k8.cell 0
      clear o8 b8 k8 kp
      go_wp2_with fail
      go_roundw
      case rel => exact ⟨1, [2, 9, 0, 1, 2, 1, 0], A8, c8, by omega, rfl, rfl, fun h => by omega, fun _ => rfl, O8.out, B8.out⟩
      case measure => simp [intOf]
    · have hPP := hP rfl
      subst hPP
      have z0 : ((1 : Nat) : Int) = 1 := rfl
      rw [z0]
      clear z0 hl hP
      go_wp2_with fail
      go_ret
      exact ⟨_, _, rfl, HO.out.base_le hz0, B0.out.trans (HB.out.mono hz0)⟩
theorem encode_2 (g : Nat) (w : World) (ht : Tab w) (h : R2 w g) :
    Calls Tryd.prog 17 #[FV 2 0 0 0 0 false none 0 0 none 0 0 (some ⟨g, 0, none⟩) 2 2] w fun r w' => ∃ A' c', r = .returned (.slice A' 7 c') ∧ Own w' w.heap.size A' c' [2, 9, 0, 1, 2, 1, 0] ∧ Below w.heap.size w w' := by
  have b0 : Below w.heap.size w (w.alloc (.cells #[.int .u64 2, .int .u64 0, .int .u64 0, .int .u64 0, .int .u64 0, .bool false, .slice none 0 0, .slice none 0 0, .slice (some ⟨g, 0, none⟩) 2 2] 28)) := (Below.refl _ _).alloc (Nat.le_refl _) _
  have CA := encodeAck_2 g _ (ht.below b0) (h.below b0)
  unfold FV at CA ⊢
  have CA' := Lib.hid CA
  have B0 := Lib.hid b0
  clear CA b0 ht h
  go_enter Tryd.func17, Tryd.ntmps17
  go_wp2_with fail
  refine CA'.out.mono ?_
  rintro r w1 ⟨A1, c1, rfl, o1, b1⟩
  have O1 := Lib.hid (o1.base_le B0.out.size)
  have B1 := Lib.hid (B0.out.trans (b1.mono B0.out.size))
  clear o1 b1
  go_wp2_with fail
  go_ret
  exact ⟨_, _, rfl, O1.out, B1.out⟩
theorem frameBytes_1 (A : Option Addr) (c : Nat) (w : World) (ht : Tab w) (ha : Sl w A c [97, 98]) :
    Calls Tryd.prog 9 #[FV 8 4 0 0 0 true A 2 c none 0 0 none 0 0] w fun r w' => ∃ A' c', r = .returned (.tuple #[.slice A' 5 c', .int .i64 0]) ∧ Own w' w.heap.size A' c' [11, 4, 2, 97, 98] ∧ Below w.heap.size w w' := by
  have b0 : Below w.heap.size w (w.alloc (.cells #[.int .u64 8, .int .u64 4, .int .u64 0, .int .u64 0, .int .u64 0, .bool true, .slice A 2 c, .slice none 0 0, .slice none 0 0] 28)) := (Below.refl _ _).alloc (Nat.le_refl _) _
  have K0 := Lib.hid (Blk.new w 28 #[.int .u64 8, .int .u64 4, .int .u64 0, .int .u64 0, .int .u64 0, .bool true, .slice A 2 c, .slice none 0 0, .slice none 0 0])
  have CV := (fun W => valid_yes 8 4 0 0 0 true A 2 c none 0 0 none 0 0 49 53 W (by omega) (by omega) (by omega) rfl rfl rfl (by decide) (by decide) (fun W' _ => fitting_1 A c W'))
  have CE := (fun W (h1 : Tab W) (h2 : Sl W A c [97, 98]) => encode_1 A c W h1 h2)
  have HT := Lib.hid ht
  have HA := Lib.hid ha
  unfold FV at CV CE ⊢
  have CV' := Lib.hid CV
  have CE' := Lib.hid CE
  have B0 := Lib.hid b0
  clear CV CE b0 ht ha
  go_enter Tryd.func9, Tryd.ntmps9
  go_wp2_with fail
  refine (CV'.out _).mono ?_
  rintro r w1 ⟨rfl, b1⟩
  have k1 := K0.out.below b1 K0.out.lt
  have B1 := Lib.hid (B0.out.trans (b1.mono B0.out.size))
  have q0 := k1.cell 0
  have q1 := k1.cell 1
  have q2 := k1.cell 2
  have q3 := k1.cell 3
  have q4 := k1.cell 4
  have q5 := k1.cell 5
  have q6 := k1.cell 6
  have q7 := k1.cell 7
  have q8 := k1.cell 8
  clear b1 k1
  go_wp2_with fail
  refine (CE'.out _ (HT.out.below B1.out) (HA.out.below B1.out)).mono ?_
  rintro r w2 ⟨A2, c2, rfl, o2, b2⟩
  have O2 := Lib.hid (o2.base_le B1.out.size)
  have B2 := Lib.hid (B1.out.trans (b2.mono B1.out.size))
  clear o2 b2
  go_wp2_with fail
  go_ret2
  exact ⟨_, _, rfl, O2.out, B2.out⟩
theorem frameBytes_2 (g : Nat) (w : World) (ht : Tab w) (h : R2 w g) :
    Calls Tryd.prog 9 #[FV 2 0 0 0 0 false none 0 0 none 0 0 (some ⟨g, 0, none⟩) 2 2] w fun r w' => ∃ A' c', r = .returned (.tuple #[.slice A' 7 c', .int .i64 0]) ∧ Own w' w.heap.size A' c' [2, 9, 0, 1, 2, 1, 0] ∧ Below w.heap.size w w' := by
  have b0 : Below w.heap.size w (w.alloc (.cells #[.int .u64 2, .int .u64 0, .int .u64 0, .int .u64 0, .int .u64 0, .bool false, .slice none 0 0, .slice none 0 0, .slice (some ⟨g, 0, none⟩) 2 2] 28)) := (Below.refl _ _).alloc (Nat.le_refl _) _
  have K0 := Lib.hid (Blk.new w 28 #[.int .u64 2, .int .u64 0, .int .u64 0, .int .u64 0, .int .u64 0, .bool false, .slice none 0 0, .slice none 0 0, .slice (some ⟨g, 0, none⟩) 2 2])
  have CV := (fun W (hw : Below w.heap.size w W) => valid_yes 2 0 0 0 0 false none 0 0 none 0 0 (some ⟨g, 0, none⟩) 2 2 128 136 W (by omega) (by omega) (by omega) rfl rfl rfl (by decide) (by decide) (fun W' hb => fitting_2 g W' (h.below (hw.trans (hb.mono hw.size)))))
  have CE := (fun W (h1 : Tab W) (h2 : R2 W g) => encode_2 g W h1 h2)
  have HT := Lib.hid ht
  have HA := Lib.hid h
  unfold FV at CV CE ⊢
  have CV' := Lib.hid CV
  have CE' := Lib.hid CE
  have B0 := Lib.hid b0
  clear CV CE b0 ht h
  go_enter Tryd.func9, Tryd.ntmps9
  go_wp2_with fail
  refine (CV'.out _ B0.out).mono ?_
  rintro r w1 ⟨rfl, b1⟩
  have k1 := K0.out.below b1 K0.out.lt
  have B1 := Lib.hid (B0.out.trans (b1.mono B0.out.size))
  have q0 := k1.cell 0
  have q1 := k1.cell 1
  have q2 := k1.cell 2
  have q3 := k1.cell 3
  have q4 := k1.cell 4
  have q5 := k1.cell 5
  have q6 := k1.cell 6
  have q7 := k1.cell 7
  have q8 := k1.cell 8
  clear b1 k1
  go_wp2_with fail
  refine (CE'.out _ (HT.out.below B1.out) (HA.out.below B1.out)).mono ?_
  rintro r w2 ⟨A2, c2, rfl, o2, b2⟩
  have O2 := Lib.hid (o2.base_le B1.out.size)
  have B2 := Lib.hid (B1.out.trans (b2.mono B1.out.size))
  clear o2 b2
  go_wp2_with fail
  go_ret2
  exact ⟨_, _, rfl, O2.out, B2.out⟩
theorem bytes_of {l : List Int} (h : ∀ x ∈ l, 0 ≤ x ∧ x < 256) : Bytes l := h
set_option maxHeartbeats 1600000 in
theorem awake5_any (w : World) (ht : Tab w) : Calls Tryd.prog 4 #[] w fun r w' => r = .returned (.bool true) ∧ Below w.heap.size w w' := by
  have kc := fun (w : World) (C : Array Value) (n c g : Nat) (hg : g = w.heap.size) => Joins.run_convert_bytes_const_at (P := Tryd.prog) w 23 5 C n c g hg Tryd.underlying23 Tryd.underlying5
  have ba : Below w.heap.size w (w.alloc (.cells #[.int .u8 97, .int .u8 98] 5 (2, 3))) := (Below.refl _ _).alloc (Nat.le_refl _) _
  have hsl : Sl (w.alloc (.cells #[.int .u8 97, .int .u8 98] 5 (2, 3))) (some ⟨w.heap.size, 0, none⟩) 2 [97, 98] := by
    refine ⟨⟨rfl, fun _ => ⟨_, rfl, by simp, fun j u hu => ?_⟩⟩, by decide, by decide, fun h => by cases h⟩
    have h := cell_of_row (w.alloc (.cells #[.int .u8 97, .int .u8 98] 5 (2, 3))) w.heap.size j #[.int .u8 97, .int .u8 98] 5 (2, 3) (heap_alloc_new w _)
    rw [Addr.add_mid, Nat.zero_add, h, ← hu]
    simp [U8]
  have HT := Lib.hid (ht.below ba)
  have C1 := frameBytes_1 (some ⟨w.heap.size, 0, none⟩) 2 _ HT.out hsl
  unfold FV at C1
  have C1' := Lib.hid C1
  have BA := Lib.hid ba
  clear C1 hsl ba ht
  go_enter Tryd.func4, Tryd.ntmps4
  go_wp2_with fail
  generalize hW : (w.alloc (.cells #[.int .u8 97, .int .u8 98] 5 (2, 3))) = W0 at HT C1' BA ⊢
  clear hW
  refine C1'.out.mono ?_
  rintro r w2 ⟨A2, c2, rfl, o2, b2⟩
  have b3 : Below w2.heap.size w2 (w2.alloc (.cells #[.int .u64 7, .int .u64 9, .int .u64 4, .int .u64 4] 39)) := (Below.refl _ _).alloc (Nat.le_refl _) _
  have k3 := Blk.new w2 39 #[.int .u64 7, .int .u64 9, .int .u64 4, .int .u64 4]
  have R3 : R2 (w2.alloc (.cells #[.int .u64 7, .int .u64 9, .int .u64 4, .int .u64 4] 39)) w2.heap.size := ⟨k3.lt, k3.cell 0, k3.cell 1, k3.cell 2, k3.cell 3⟩
  have C2 := frameBytes_2 w2.heap.size _ ((HT.out.below b2).below b3) R3
  unfold FV at C2
  have C2' := Lib.hid C2
  have O3 := Lib.hid (o2.below b3)
  have B3 := Lib.hid (BA.out.trans ((b2.trans (b3.mono b2.size)).mono BA.out.size))
  clear o2 b2 b3 k3 R3 C2 C1'
  go_wp2_with fail
  refine C2'.out.mono ?_
  rintro r w4 ⟨A4, c4, rfl, o4, b4⟩
  have RA := Lib.hid (show ∀ w', Below w4.heap.size w4 w' → Rd w' A2 [11, 4, 2, 97, 98] from fun w' hb => Rd.of_own ((O3.out.below b4).below hb))
  have RB := Lib.hid (show ∀ w', Below w4.heap.size w4 w' → Rd w' A4 [2, 9, 0, 1, 2, 1, 0] from fun w' hb => Rd.of_own (o4.below hb))
  have B4 := Lib.hid (B3.out.trans (b4.mono B3.out.size))
  clear o4 b4 C2' O3
  have l5 : Below w4.heap.size w4 (w4.alloc (.cells #[.int .u8 11, .int .u8 4, .int .u8 2, .int .u8 97, .int .u8 98] 5)) := (Below.refl _ _).alloc (Nat.le_refl _) _
  have p5 : Rd (w4.alloc (.cells #[.int .u8 11, .int .u8 4, .int .u8 2, .int .u8 97, .int .u8 98] 5)) (some ⟨w4.heap.size, 0, none⟩) [11, 4, 2, 97, 98] := Rd.of_own (own_lit4 w4 [11, 4, 2, 97, 98] (Nat.le_refl _) (by decide))
  have S1 := same_any A2 (some ⟨w4.heap.size, 0, none⟩) c2 5 [11, 4, 2, 97, 98] [11, 4, 2, 97, 98] _ (RA.out _ l5) p5 (bytes_of (by decide)) (bytes_of (by decide))
  rw [show sameB [11, 4, 2, 97, 98] [11, 4, 2, 97, 98] = true by decide] at S1
  have S1' := Lib.hid S1
  have L5 := Lib.hid l5
  clear l5 p5 S1
  go_wp2_with fail
  refine S1'.out.mono ?_
  rintro r w5 ⟨rfl, rfl⟩
  generalize (w4.alloc (.cells #[.int .u8 11, .int .u8 4, .int .u8 2, .int .u8 97, .int .u8 98] 5)) = w5 at L5 ⊢
  clear S1'
  have l7 : Below w5.heap.size w5 (w5.alloc (.cells #[.int .u8 2, .int .u8 9, .int .u8 0, .int .u8 1, .int .u8 2, .int .u8 1, .int .u8 0] 5)) := (Below.refl _ _).alloc (Nat.le_refl _) _
  have p7 : Rd (w5.alloc (.cells #[.int .u8 2, .int .u8 9, .int .u8 0, .int .u8 1, .int .u8 2, .int .u8 1, .int .u8 0] 5)) (some ⟨w5.heap.size, 0, none⟩) [2, 9, 0, 1, 2, 1, 0] := Rd.of_own (own_lit4 w5 [2, 9, 0, 1, 2, 1, 0] (Nat.le_refl _) (by decide))
  have b7 := L5.out.trans (l7.mono L5.out.size)
  have S2 := same_any A4 (some ⟨w5.heap.size, 0, none⟩) c4 7 [2, 9, 0, 1, 2, 1, 0] [2, 9, 0, 1, 2, 1, 0] _ (RB.out _ b7) p7 (bytes_of (by decide)) (bytes_of (by decide))
  rw [show sameB [2, 9, 0, 1, 2, 1, 0] [2, 9, 0, 1, 2, 1, 0] = true by decide] at S2
  have S2' := Lib.hid S2
  have B7 := Lib.hid (B4.out.trans (b7.mono B4.out.size))
  clear l7 p7 S2 b7
  go_wp2_with fail
  refine S2'.out.mono ?_
  rintro r w6 ⟨rfl, rfl⟩
  go_wp2_with fail
  go_ret
  exact ⟨rfl, B7.out⟩
end Go.Proofs.YtfimngmpkckcdaaDoor
