/-
  Close.
-/
import Derived.Test.YtpedajjmbdjfiaaSaltH
namespace Go.Proofs.Ytpedajjmbdjfiaa
open Go.RowKit
set_option linter.unusedVariables false

/-- What is closed, without its tag; and with it. -/
def encE (key nonce plain : List Int) : List Int := xorb plain (stream key nonce 1 plain.length)
def closeL (key nonce plain beside : List Int) : List Int := encE key nonce plain ++ sealT key nonce (encE key nonce plain) beside
theorem encE_length (key nonce plain : List Int) : (encE key nonce plain).length = plain.length := xorb_length (by rw [stream_length]; exact Nat.le_refl _)
theorem encE_bytes {key nonce plain : List Int} (h : Bytes plain) : Bytes (encE key nonce plain) := xorb_bytes h (stream_bytes _ _ _ _)
theorem closeL_length (key nonce plain beside : List Int) : (closeL key nonce plain beside).length = plain.length + 16 := by
  rw [closeL, List.length_append, encE_length, sealT_length]
theorem Own.part {w : World} {g base c : Nat} {l rest : List Int} (h : Blk w g 5 (IV .u8 (l ++ rest)).toArray) (hb : base ≤ g) (hc : c = l.length + rest.length) (hm : c ≤ 70368744177664) : Own w base (some ⟨g, 0, none⟩) c l :=
  ⟨by simp [U8], .inr ⟨g, c, _, rfl, hb, h, by omega, by unfold maxLen; omega, by simp [IV]; omega, by simp [IV, U8]⟩⟩
theorem splice_front (z : Nat) (p : List Int) : splice (IV .u8 (List.replicate (p.length + z) 0)) 0 (IV .u8 p) = IV .u8 (p ++ List.replicate z 0) := by
  unfold splice
  rw [IV_append, IV_length, Nat.zero_add]
  simp only [IV, List.take_zero, List.nil_append, ← List.map_drop, List.drop_replicate, Nat.add_sub_cancel_left]

set_option maxHeartbeats 1600000 in
theorem Close_any (key nonce plain beside : List Int) (A B : Option Addr) (c d : Nat) (w : World) (hk : key.length = 32) (hkb : Bytes key) (hnl : nonce.length = 12) (hnb : Bytes nonce)
    (hp : Rd w A plain) (hpb : Bytes plain) (hpc : plain.length ≤ c) (hcm : c ≤ 9223372036854775807) (hb : Rd w B beside) (hbb : Bytes beside) (hdd : beside.length ≤ d) (hdm : d ≤ 9223372036854775807) (hpl : plain.length ≤ 1000000) :
    Calls Try.prog 19 #[.agg (IV .u8 key).toArray, .agg (IV .u8 nonce).toArray, .slice A plain.length c, .slice B beside.length d] w fun e w' =>
      ∃ A' c', e = .returned (.slice A' (plain.length + 16) c') ∧ Own w' w.heap.size A' c' (closeL key nonce plain beside) ∧ Below w.heap.size w w' := by
  obtain ⟨E, hE⟩ : ∃ E, E = encE key nonce plain := ⟨_, rfl⟩
  have hEl : E.length = plain.length := by rw [hE, encE_length]
  have hEb : Bytes E := by rw [hE]; exact encE_bytes hpb
  have CX := Lib.hid (fun (g : Nat) W (hb : Blk W g 5 (IV .u8 (plain ++ List.replicate 16 0)).toArray) => xor_any g 5 plain (List.replicate 16 0) (plain.length + 16) key nonce 1 W hb hpb (by omega) (by omega) hk hkb hnl hnb (by unfold W32; omega))
  rw [show xorb plain (stream key nonce 1 plain.length) = E from hE.symm] at CX
  have CS := Lib.hid (fun (g : Nat) W (hr : Rd W (some ⟨g, 0, none⟩) E) (hb : Rd W B beside) => sealTag_any key nonce E beside (some ⟨g, 0, none⟩) B (plain.length + 16) d W hk hkb hnl hnb hr hEb (by omega) (by omega) hb hbb hdd hdm)
  rw [hEl] at CS
  obtain ⟨T, hT⟩ : ∃ T, T = sealT key nonce E beside := ⟨_, rfl⟩
  have hTl : T.length = 16 := by rw [hT, sealT_length]
  rw [← hT] at CS
  obtain ⟨KA, hKA⟩ : ∃ KA, KA = (IV .u8 key).toArray := ⟨_, rfl⟩
  obtain ⟨NA, hNA⟩ : ∃ NA, NA = (IV .u8 nonce).toArray := ⟨_, rfl⟩
  rw [← hKA, ← hNA] at CX CS ⊢
  have hOut : closeL key nonce plain beside = E ++ T := by rw [closeL, ← hE, ← hT]
  rw [hOut]
  have SK := Lib.hid (show KA.size = 32 by rw [hKA]; simp [IV, hk])
  have SN := Lib.hid (show NA.size = 12 by rw [hNA]; simp [IV, hnl])
  have I32 := Lib.hid (show (Try.prog.info? 22).map (·.size) = some 32 by kernel_rfl)
  have I12 := Lib.hid (show (Try.prog.info? 23).map (·.size) = some 12 by kernel_rfl)
  have I16 := Lib.hid (show (Try.prog.info? 25).map (·.size) = some 16 by kernel_rfl)
  have HP := Lib.hid hp
  have HB := Lib.hid hb
  have HEL := Lib.hid hEl
  have HTL := Lib.hid hTl
  have hmk := fun W => mk_z plain.length (plain.length + 16) plain.length (plain.length + 16) rfl (by simp) (by omega) (by omega) W
  clear hKA hNA hk hkb hnl hnb hE hEl hEb hT hTl hOut hp hb hpb hbb
  go_enter Try.func19, Try.ntmps19
  have bl0 : Blk (((w.alloc (.cells KA 22)).alloc (.cells NA 23)).alloc (.cells (IV .u8 (List.replicate (plain.length + 16) 0)).toArray 5)) (w.heap.size + 1 + 1) 5 (IV .u8 (List.replicate (plain.length + 16) 0)).toArray := by
    have h := blk_second (w.alloc (.cells KA 22)) (.cells NA 23) 5 (IV .u8 (List.replicate (plain.length + 16) 0)).toArray
    simpa using h
  have BK0 := Lib.hid bl0
  have eln : (IV IntKind.u8 plain).length = plain.length := IV_length _ _
  clear bl0
  go_wp2_with (first
    | (refine wpList_copy_splice rfl (.tmp 17) (.tmp 18) 27 27 rfl 5 rfl rfl _ _ plain.length (plain.length + 16) plain.length c rfl rfl (w.heap.size + 1 + 1) 0 (IV .u8 (List.replicate (plain.length + 16) 0)) 5 BK0.out (IV .u8 plain) (by rw [eln]; exact (Nat.min_self _).symm) (fun hn => ⟨rfl, (by
            obtain ⟨ad, e, _, hc⟩ := (((HP.out.alloc _).alloc _).alloc _).2 (by simpa [IV] using hn)
            exact ⟨ad, e, hc⟩)⟩) (by rw [eln, IV_length]; simp) (IV_oneCell _ _) (w.heap.size + 1 + 1) _ (Below.refl _ _) (Nat.le_refl _) ?_
       rw [eln]
       intro w3 h3 b3
       have H3 := Lib.hid (show Blk w3 (w.heap.size + 1 + 1) 5 (IV .u8 (plain ++ List.replicate 16 0)).toArray from (by have h := h3.out; rw [splice_front] at h; exact h))
       have BL3 := Lib.hid (show Below w.heap.size w w3 from ((((Below.refl _ _).alloc (Nat.le_refl _) _).alloc (by simp) _).alloc (by simp; omega) _).trans (b3.mono (by omega)))
       have KA3 := Lib.hid (show Blk w3 w.heap.size 22 KA from (((Blk.new w _ KA).alloc _).alloc _).below b3 (by omega))
       have NA3 := Lib.hid (show Blk w3 (w.heap.size + 1) 23 NA from ((blk_second w _ _ NA).alloc _).below b3 (by omega))
       clear h3 b3)
    | refine wpList_load_row rfl 22 (.tmp 4) rfl w.heap.size rfl 22 KA (0, 0) _ KA3.out Try.underlying22 rfl (by rw [SK.out]; exact I32.out) ?_
    | refine wpList_load_row rfl 23 (.tmp 5) rfl (w.heap.size + 1) rfl 23 NA (0, 0) _ NA3.out Try.underlying23 rfl (by rw [SN.out]; exact I12.out) ?_)
  obtain ⟨g, hg⟩ : ∃ g, g = w.heap.size + 1 + 1 := ⟨_, rfl⟩
  rw [← hg] at H3 ⊢
  have HG := Lib.hid hg
  have hgl : w.heap.size + 1 < g := by omega
  clear hg BK0 hmk
  refine (CX.out _ _ H3.out).mono ?_
  rintro e w4 ⟨rfl, bl4, g4⟩
  have KA4 := Lib.hid (KA3.out.grown g4 (by intro h; injection h; omega))
  have NA4 := Lib.hid (NA3.out.grown g4 (by intro h; injection h; omega))
  have BL4 := Lib.hid (grown_below BL3.out g4 BL3.out.size (by omega))
  have BK4 := Lib.hid bl4
  have RE4 := Lib.hid (show Rd w4 (some ⟨g, 0, none⟩) E by
    have h := bl4.rd.upto (k := E.length) (by simp)
    rwa [List.take_left'] at h
    rfl)
  clear H3 KA3 NA3 BL3 bl4 g4
  have CT := Lib.hid (CS.out g w4 RE4.out (HB.out.below BL4.out))
  clear CS CX
  go_wp2_with (first
    | refine wpList_load_row rfl 22 (.tmp 4) rfl w.heap.size rfl 22 KA (0, 0) _ KA4.out Try.underlying22 rfl (by rw [SK.out]; exact I32.out) ?_
    | refine wpList_load_row rfl 23 (.tmp 5) rfl (w.heap.size + 1) rfl 23 NA (0, 0) _ NA4.out Try.underlying23 rfl (by rw [SN.out]; exact I12.out) ?_)
  refine CT.out.mono ?_
  rintro e w5 ⟨rfl, b5⟩
  have BL5 := Lib.hid (BL4.out.trans (b5.mono BL4.out.size))
  have BK5 := Lib.hid (BK4.out.below b5 BK4.out.lt)
  have hg5 : g < w5.heap.size := BK5.out.lt
  obtain ⟨TA, hTA⟩ : ∃ TA, TA = (IV .u8 T).toArray := ⟨_, rfl⟩
  rw [← hTA]
  have HTA := Lib.hid hTA
  have ST := Lib.hid (show TA.size = 16 by rw [hTA]; simp [IV, HTL.out])
  have AT := Lib.hid (show TA.all (·.oneCell') = true by rw [hTA]; simp [IV, Value.oneCell'])
  clear KA4 NA4 BL4 BK4 RE4 CT b5 hTA
  have y3 := slice_arr16z w5.heap.size
  obtain ⟨Z16, hZ16⟩ : ∃ Z, Z = (IV .u8 (List.replicate 16 0)).toArray := ⟨_, rfl⟩
  have hz16 : ∀ w, (zeroValue 25).run Try.prog w = .ok (.agg Z16) w := by rw [hZ16]; exact fun w => rfl
  have ZS16 := Lib.hid (show Z16.size = 16 by rw [hZ16]; rfl)
  clear hZ16
  go_wp2_with (first
    | (refine wpList_store_row rfl 25 (.tmp 10) (.tmp 28) rfl w5.heap.size TA rfl rfl 25 Z16 (Blk.new w5 _ _) (by rw [ST.out]; exact I16.out) (by rw [ST.out, ZS16.out]) AT.out ?_
       have T6 := Lib.hid (Blk.row (Blk.new w5 25 Z16) TA)
       have B6 := Lib.hid (below_setRow ((Below.refl w5.heap.size w5).alloc (Nat.le_refl _) (.cells Z16 25)) (Nat.le_refl _) TA)
       generalize (w5.alloc (.cells Z16 25)).setRow w5.heap.size TA = w6 at T6 B6 ⊢
       have R6 := Lib.hid (show Rd w6 (some ⟨w5.heap.size, 0, none⟩) T by have h := T6.out; rw [HTA.out] at h; exact h.rd)
       have O6 := Lib.hid (show Own w6 w.heap.size (some ⟨g, 0, none⟩) (plain.length + 16) E from Own.part (BK5.out.below B6.out hg5) (by omega) (by have := HEL.out; simp; omega) (by omega))
       have BL6 := Lib.hid (BL5.out.trans (B6.out.mono BL5.out.size)))
    | (refine wpList_app rfl (.tmp 29) (.tmp 30) rfl w.heap.size (A := some ⟨g, 0, none⟩) (c := plain.length + 16) (l := E) (B := some ⟨w5.heap.size, 0, none⟩) (d := 16) (news := T) (by rw [HEL.out]; rfl) (by rw [HTL.out]; rfl) O6.out R6.out (by rw [HEL.out, HTL.out]; omega) BL6.out.size ?_
       intro A' c' w7 o7 g7 b7
       have O7 := Lib.hid o7
       have BL7 := Lib.hid (BL6.out.trans b7)
       rw [HEL.out, HTL.out]
       clear o7 g7 b7))
  go_ret
  exact ⟨_, _, rfl, O7.out, BL7.out⟩
end Go.Proofs.Ytpedajjmbdjfiaa
