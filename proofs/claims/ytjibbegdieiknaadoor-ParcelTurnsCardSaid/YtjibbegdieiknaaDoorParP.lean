/-
  ParcelTurns.
-/
import Derived.Test.YtjibbegdieiknaaDoorMaAY
import Derived.Test.YtjibbegdieiknaaDoorMaAZ
namespace Go.Proofs.YtjibbegdieiknaaDoor
open Go.RowKit
set_option maxRecDepth 100000
set_option linter.unusedVariables false
set_option linter.unusedSimpArgs false

/-- A row that holds keys: its mask is known. -/
def KeysAt (w : World) (g : Nat) (mask : List Int) : Prop := ∃ key iv : List Int, (key.length = 32 ∧ Bytes key ∧ iv.length = 12 ∧ Bytes iv) ∧ Blk w g 34 (IV .u8 (key ++ iv ++ mask)).toArray
def SecAt (w : World) (g : Nat) : Prop := ∃ sec : List Int, (sec.length = 32 ∧ Bytes sec) ∧ Blk w g 22 (IV .u8 sec).toArray
theorem name8_b : Bytes [49, 50, 51, 52, 53, 54, 55, 56] := by unfold Bytes; decide

set_option maxHeartbeats 6400000 in
theorem turns_walk (secret : List Int) (times : Int) (A : Option Addr) (c : Nat) (plain : List Int) (w : World) (hE : STab w ∧ KTab w ∧ Tab w) (hk : secret.length = 32) (hkb : Bytes secret) (wt : (Lit.int .u8 times).wf = true)
    (hr : Rd w A plain) (hpb : Bytes plain) (hl : plain.length ≤ c) (hc : c ≤ 9223372036854775807) (hn : A = none → c = 0) :
    Calls Tryd.prog 5 #[.agg (IV .u8 secret).toArray, .int .u8 times, .slice A plain.length c] w fun e w' => e = .returned (.bool true) ∧ Below w.heap.size w w' := by
  have ht : 0 ≤ times ∧ times < 256 := by
    simp [Lit.wf, IntKind.min, IntKind.max, IntKind.signed, IntKind.bits] at wt; omega
  obtain ⟨hS, hK, hT⟩ := hE
  have C0 := Lib.hid (fun W (h : Below w.heap.size w W) => awake6_any W (hS.below h) (hK.below h))
  obtain ⟨SA, hSA⟩ : ∃ SA, SA = (IV .u8 secret).toArray := ⟨_, rfl⟩
  have SSA := Lib.hid (show SA.size = 32 by rw [hSA]; simp [IV, hk])
  have CD := Lib.hid (fun W (h : Below w.heap.size w W) => Draw_any secret W hk hkb (hS.below h) (hK.below h))
  obtain ⟨mask, hmask⟩ : ∃ m, m = lab secret nHp 32 := ⟨_, rfl⟩
  have hml : mask.length = 32 := by rw [hmask]; exact lab_length _ _ _
  have hmb : Bytes mask := by rw [hmask]; exact lab_bytes _ _ _
  obtain ⟨KA, hKA⟩ : ∃ KA, KA = (IV .u8 (lab secret nKey 32 ++ lab secret nIv 12 ++ mask)).toArray := ⟨_, rfl⟩
  have SKA := Lib.hid (show KA.size = 76 by rw [hKA]; simp [IV, lab_length, hml])
  have AKA := Lib.hid (show KA.all (·.oneCell') = true by rw [hKA]; simp [IV, Value.oneCell'])
  have KAT := Lib.hid (fun W g (h : Blk W g 34 KA) => show KeysAt W g mask from ⟨lab secret nKey 32, lab secret nIv 12, ⟨lab_length _ _ _, lab_bytes _ _ _, lab_length _ _ _, lab_bytes _ _ _⟩, by rw [← hKA]; exact h⟩)
  have SAT := Lib.hid (fun W g (h : Blk W g 22 SA) => show SecAt W g from ⟨secret, ⟨hk, hkb⟩, by rw [← hSA]; exact h⟩)
  rw [← hmask, show KV (lab secret nKey 32) (lab secret nIv 12) mask = .agg KA by rw [hKA]; rfl, ← hSA] at CD
  rw [← hSA]
  obtain ⟨MK, hMK⟩ : ∃ MK, MK = IV .u8 mask := ⟨_, rfl⟩
  have SMK := Lib.hid (show MK.toArray.size = 32 by rw [hMK]; simp [IV, hml])
  have SMK' := Lib.hid (show MK.length = 32 by rw [hMK, IV_length, hml])
  have AMK := Lib.hid (show MK.toArray.all (·.oneCell') = true by rw [hMK]; simp [IV, Value.oneCell'])
  have KRM := Lib.hid (show ∀ (W : World) g, Blk W g 34 KA → W.rangeAt g 44 MK from fun W g h => by
    rw [hKA] at h; rw [hMK]; exact (keys_range (lab_length _ _ _) (lab_length _ _ _) h).2.2)
  have hu32 := Tryd.underlying22
  have hiM := Lib.hid (show (Tryd.prog.info? 22).map (·.size) = some MK.length by rw [SMK'.out]; kernel_rfl)
  have I32 := Lib.hid (show (Tryd.prog.info? 22).map (·.size) = some 32 by kernel_rfl)
  have I76 := Lib.hid (show (Tryd.prog.info? 34).map (·.size) = some 76 by kernel_rfl)
  obtain ⟨Z, hZ⟩ : ∃ Z, Z = (IV .u8 (List.replicate 76 0)).toArray := ⟨_, rfl⟩
  have hz76 : ∀ w, (zeroValue 34).run Tryd.prog w = .ok (.agg Z) w := by rw [hZ]; exact zero76
  have ZS := Lib.hid (show Z.size = 76 by rw [hZ]; simp [IV])
  obtain ⟨Z3, hZ3⟩ : ∃ Z, Z = (IV .u8 (List.replicate 32 0)).toArray := ⟨_, rfl⟩
  have hz32 : ∀ w, (zeroValue 22).run Tryd.prog w = .ok (.agg Z3) w := by rw [hZ3]; exact zero32'
  have ZS3 := Lib.hid (show Z3.size = 32 by rw [hZ3]; simp [IV])
  have HS := Lib.hid hS
  have HK := Lib.hid hK
  have HT := Lib.hid hT
  have HPB := Lib.hid hpb
  have SP := Lib.hid (show Sl w A c plain from ⟨hr, hl, hc, hn⟩)
  have HMK := Lib.hid hMK
  have HML := Lib.hid hml
  have HMB := Lib.hid hmb
  have b0 := Lib.hid (show Below w.heap.size w (w.alloc (.cells SA 22)) from (Below.refl _ _).alloc (Nat.le_refl _) _)
  have N0 := Lib.hid (Blk.new w 22 SA)
  clear hSA hmask hml hmb hKA hMK hZ hZ3 hS hK hT hk hkb hr hpb hl hc hn wt
  go_enter Tryd.func5, Tryd.ntmps5
  go_wp2_with (first
    | (go_at_call 6; refine (C0.out _ b0.out).mono ?_; rintro e w1 ⟨rfl, b1⟩
       have B1 := Lib.hid (b0.out.trans (b1.mono b0.out.size))
       have S1 := Lib.hid (N0.out.below b1 N0.out.lt)
       have C1 := Lib.hid (CD.out w1 B1.out)
       clear b1)
    | refine wpList_load_row rfl 22 (.tmp 3) rfl w.heap.size rfl 22 SA (0, 0) _ S1.out Tryd.underlying22 rfl (by rw [SSA.out]; exact I32.out) ?_
    | (go_at_call 10; refine C1.out.mono ?_; rintro e w2 ⟨rfl, b2⟩
       have B2 := Lib.hid (B1.out.trans (b2.mono B1.out.size))
       have S2 := Lib.hid (S1.out.below b2 S1.out.lt)
       clear b2)
    | (refine wpList_store_row rfl 34 (.tmp 7) (.tmp 23) rfl w2.heap.size KA rfl rfl 34 Z (Blk.new w2 _ _) (by rw [SKA.out]; exact I76.out) (by rw [SKA.out, ZS.out]) AKA.out ?_
       have K3 := Lib.hid (Blk.row (Blk.new w2 34 Z) KA)
       have b3 := (below_setRow ((Below.refl w2.heap.size w2).alloc (Nat.le_refl _) (.cells Z 34)) (Nat.le_refl _) KA)
       have B3 := Lib.hid (B2.out.trans (b3.mono B2.out.size))
       have S3 := Lib.hid (S2.out.below b3 S2.out.lt)
       have hs3 := Lib.hid (show w.heap.size < w2.heap.size from S2.out.lt)
       clear b3
       generalize (w2.alloc (.cells Z 34)).setRow w2.heap.size KA = w3 at K3 B3 S3 ⊢
       have M3 := Lib.hid (KRM.out w3 w2.heap.size K3.out))
    | refine wpList_load_mid rfl 22 (.tmp 24) rfl w2.heap.size 44 rfl MK _ M3.out hu32 rfl hiM.out ?_
    | (refine wpList_store_row rfl 22 (.tmp 8) (.tmp 25) rfl w3.heap.size MK.toArray rfl rfl 22 Z3 (Blk.new w3 _ _) (by rw [SMK.out]; exact I32.out) (by rw [SMK.out, ZS3.out]) AMK.out ?_
       have F4 := Lib.hid (Blk.row (Blk.new w3 22 Z3) MK.toArray)
       have b4 := (below_setRow ((Below.refl w3.heap.size w3).alloc (Nat.le_refl _) (.cells Z3 22)) (Nat.le_refl _) MK.toArray)
       have B4 := Lib.hid (B3.out.trans (b4.mono B3.out.size))
       have S4 := Lib.hid (S3.out.below b4 S3.out.lt)
       have K4 := Lib.hid (K3.out.below b4 K3.out.lt)
       have hs4 := Lib.hid (show w2.heap.size < w3.heap.size from K3.out.lt)
       clear b4
       generalize (w3.alloc (.cells Z3 22)).setRow w3.heap.size MK.toArray = w4 at F4 B4 S4 K4 ⊢))
  obtain ⟨gK, hgK⟩ : ∃ g, g = w2.heap.size := ⟨_, rfl⟩
  obtain ⟨gF, hgF⟩ : ∃ g, g = w3.heap.size := ⟨_, rfl⟩
  obtain ⟨g0, hg0⟩ : ∃ g, g = w.heap.size := ⟨_, rfl⟩
  rw [← hgK] at K4 hs4 hs3 ⊢
  rw [← hgF] at F4 hs4 ⊢
  rw [← hg0] at S4 hs3 ⊢
  have HG := Lib.hid (show w.heap.size = g0 ∧ g0 < gK ∧ gK < gF from ⟨hg0.symm, hs3.out, hs4.out⟩)
  clear hgK hgF hg0 hs3 hs4 M3 K3 S3 B3 B2 S2 C1 B1 S1 b0 N0 C0 CD KRM
  obtain ⟨n, hn⟩ : ∃ n : Nat, times % 6 = (n : Int) := ⟨(times % 6).toNat, by omega⟩
  have hn5 : n ≤ 5 := by omega
  rw [hn]
  have HN := Lib.hid hn
  clear hn
  go_loopw [28] (fun i wr => ∃ j : Nat, j ≤ n ∧ i = .int .u8 (j : Int) ∧ SecAt wr g0 ∧ KeysAt wr gK mask ∧ Blk wr gF 22 MK.toArray ∧ Below w.heap.size w wr) (fun i _ => n - (intOf i).toNat)
  case atStart => exact ⟨0, by omega, rfl, SAT.out _ _ S4.out, KAT.out _ _ K4.out, F4.out, B4.out⟩
  case round =>
    obtain ⟨j, hj, rfl, ⟨sec, ⟨hs1, hs2⟩, bs⟩, ⟨key, iv, ⟨hk1, hk2, hi1, hi2⟩, bk⟩, bf, bl⟩ := hrel
    clear S4 K4 F4 B4 SAT KAT SSA SKA AKA
    by_cases hjn : j < n
    · obtain ⟨s2, hs2'⟩ : ∃ s, s = lab sec nKu 32 := ⟨_, rfl⟩
      have hl2 : s2.length = 32 := by rw [hs2']; exact lab_length _ _ _
      have hb2 : Bytes s2 := by rw [hs2']; exact lab_bytes _ _ _
      have CN := Lib.hid (Next_any sec wr hs1 hs2 (HS.out.below bl) (HK.out.below bl))
      have CT := Lib.hid (fun W (h : Below w.heap.size w W) => Turn_any key iv mask s2 W hk1 hi1 HML.out hl2 hb2 (HS.out.below h) (HK.out.below h))
      obtain ⟨S1, hS1⟩ : ∃ S, S = (IV .u8 sec).toArray := ⟨_, rfl⟩
      obtain ⟨S2, hS2⟩ : ∃ S, S = (IV .u8 s2).toArray := ⟨_, rfl⟩
      obtain ⟨Q1, hQ1⟩ : ∃ S, S = (IV .u8 (key ++ iv ++ mask)).toArray := ⟨_, rfl⟩
      obtain ⟨Q2, hQ2⟩ : ∃ S, S = (IV .u8 (lab s2 nKey 32 ++ lab s2 nIv 12 ++ mask)).toArray := ⟨_, rfl⟩
      rw [← hs2', ← hS1, ← hS2] at CN
      rw [show KV key iv mask = .agg Q1 by rw [hQ1]; rfl, show KV (lab s2 nKey 32) (lab s2 nIv 12) mask = .agg Q2 by rw [hQ2]; rfl, ← hS2] at CT
      rw [← hS1] at bs
      rw [← hQ1] at bk
      have SS1 := Lib.hid (show S1.size = 32 by rw [hS1]; simp [IV, hs1])
      have SS2 := Lib.hid (show S2.size = 32 by rw [hS2]; simp [IV, hl2])
      have AS2 := Lib.hid (show S2.all (·.oneCell') = true by rw [hS2]; simp [IV, Value.oneCell'])
      have SQ1 := Lib.hid (show Q1.size = 76 by rw [hQ1]; simp [IV, hk1, hi1, HML.out])
      have SQ2 := Lib.hid (show Q2.size = 76 by rw [hQ2]; simp [IV, lab_length, HML.out])
      have AQ2 := Lib.hid (show Q2.all (·.oneCell') = true by rw [hQ2]; simp [IV, Value.oneCell'])
      have FSEC := Lib.hid (fun W (h : Blk W g0 22 S2) => show SecAt W g0 from ⟨s2, ⟨hl2, hb2⟩, by rw [← hS2]; exact h⟩)
      have FKEY := Lib.hid (fun W (h : Blk W gK 34 Q2) => show KeysAt W gK mask from ⟨lab s2 nKey 32, lab s2 nIv 12, ⟨lab_length _ _ _, lab_bytes _ _ _, lab_length _ _ _, lab_bytes _ _ _⟩, by rw [← hQ2]; exact h⟩)
      have BS := Lib.hid bs
      have BK := Lib.hid bk
      have BF := Lib.hid bf
      have BL := Lib.hid bl
      clear hs2' hl2 hb2 hS1 hS2 hQ1 hQ2 bs bk bf bl hs1 hs2 hk1 hk2 hi1 hi2
      go_wp2_with (first
        | refine wpList_load_row rfl 22 (.tmp 3) rfl g0 rfl 22 S1 (0, 0) _ BS.out Tryd.underlying22 rfl (by rw [SS1.out]; exact I32.out) ?_
        | (go_at_call 17; refine CN.out.mono ?_; rintro e w5 ⟨rfl, b5⟩
           have BL5 := Lib.hid (BL.out.trans (b5.mono BL.out.size))
           have BS5 := Lib.hid (BS.out.below b5 BS.out.lt)
           have BK5 := Lib.hid (BK.out.below b5 BK.out.lt)
           have BF5 := Lib.hid (BF.out.below b5 BF.out.lt)
           clear b5)
        | (refine wpList_store_row rfl 22 (.tmp 3) (.tmp 31) rfl g0 S2 rfl rfl 22 S1 BS5.out (by rw [SS2.out]; exact I32.out) (by rw [SS2.out, SS1.out]) AS2.out ?_
           have T6 := Lib.hid (Blk.row BS5.out S2)
           have BK6 := Lib.hid (BK5.out.far_row (g2 := g0) (by have h := HG.out; omega) S2)
           have BF6 := Lib.hid (BF5.out.far_row (g2 := g0) (by have h := HG.out; omega) S2)
           have BL6 := Lib.hid (below_setRow (g := g0) BL5.out (by have h := HG.out; omega) S2)
           generalize w5.setRow g0 S2 = w6 at T6 BK6 BF6 BL6 ⊢)
        | refine wpList_load_row rfl 34 (.tmp 7) rfl gK rfl 34 Q1 (0, 0) _ BK6.out Tryd.underlying34 rfl (by rw [SQ1.out]; exact I76.out) ?_
        | refine wpList_load_row rfl 22 (.tmp 3) rfl g0 rfl 22 S2 (0, 0) _ T6.out Tryd.underlying22 rfl (by rw [SS2.out]; exact I32.out) ?_
        | (go_at_call 18; refine (CT.out _ BL6.out).mono ?_; rintro e w7 ⟨rfl, b7⟩
           have BL7 := Lib.hid (BL6.out.trans (b7.mono BL6.out.size))
           have T7 := Lib.hid (T6.out.below b7 T6.out.lt)
           have BK7 := Lib.hid (BK6.out.below b7 BK6.out.lt)
           have BF7 := Lib.hid (BF6.out.below b7 BF6.out.lt)
           clear b7)
        | (refine wpList_store_row rfl 34 (.tmp 7) (.tmp 34) rfl gK Q2 rfl rfl 34 Q1 BK7.out (by rw [SQ2.out]; exact I76.out) (by rw [SQ2.out, SQ1.out]) AQ2.out ?_
           have K8 := Lib.hid (Blk.row BK7.out Q2)
           have T8 := Lib.hid (T7.out.far_row (g2 := gK) (by have h := HG.out; omega) Q2)
           have F8 := Lib.hid (BF7.out.far_row (g2 := gK) (by have h := HG.out; omega) Q2)
           have BL8 := Lib.hid (below_setRow (g := gK) BL7.out (by have h := HG.out; omega) Q2)
           generalize w7.setRow gK Q2 = w8 at K8 T8 F8 BL8 ⊢))
      go_roundw
      case rel => exact ⟨j + 1, by omega, by go_num, FSEC.out _ T8.out, FKEY.out _ K8.out, F8.out, BL8.out⟩
      case measure => simp [intOf]; omega
    · obtain ⟨Q1, hQ1⟩ : ∃ S, S = (IV .u8 (key ++ iv ++ mask)).toArray := ⟨_, rfl⟩
      rw [← hQ1] at bk
      have SQ1 := Lib.hid (show Q1.size = 76 by rw [hQ1]; simp [IV, hk1, hi1, HML.out])
      obtain ⟨P0, hP0⟩ : ∃ P, P = plain.take 100 := ⟨_, rfl⟩
      have hP0l : P0.length ≤ 100 := by rw [hP0, List.length_take]; omega
      have hP0b : Bytes P0 := by rw [hP0]; exact HPB.out.take 100
      have CQ := Lib.hid (fun W (h : Below w.heap.size w W) => cut_any A c plain 100 W (SP.out.below h).rd (by have := SP.out.le; have := SP.out.max; omega) SP.out.le (by omega) (by omega))
      rw [show (100 : Int).toNat = 100 from rfl, ← hP0] at CQ
      obtain ⟨P, hP⟩ : ∃ P, P = P0 ++ [1, 2, 3] := ⟨_, rfl⟩
      have hPl : P.length = P0.length + 3 := by rw [hP, List.length_append]; rfl
      have hPb : Bytes P := by rw [hP]; exact Bytes.append hP0b (by unfold Bytes; decide)
      obtain ⟨ph, hph⟩ : ∃ ph : Bool, (times % 2 == 1) = ph := ⟨_, rfl⟩
      have BK := Lib.hid bk
      have BF := Lib.hid bf
      have BL := Lib.hid bl
      have HP0 := Lib.hid hP0l
      have HPL := Lib.hid hPl
      have HP := Lib.hid hP
      obtain ⟨PK, hPK⟩ : ∃ PK, PK = closeP false 2 ph [49, 50, 51, 52, 53, 54, 55, 56] [] 9 1 key iv mask P := ⟨_, rfl⟩
      have hR : rightB false 2 ph [49, 50, 51, 52, 53, 54, 55, 56] [] = true := by cases ph <;> rfl
      have hs11 : (1 : Nat) ≤ 1 ∧ (1 : Nat) ≤ 4 := by omega
      have CCl := Lib.hid (fun g Ap cp W (h1 : Sl W (some ⟨g, 0, none⟩) 8 [49, 50, 51, 52, 53, 54, 55, 56]) (h2 : Sl W Ap cp P) (h3 : Tab W) => Close_ok key iv mask [49, 50, 51, 52, 53, 54, 55, 56] [] P false 2 ph (some ⟨g, 0, none⟩) none Ap 8 0 cp 9 1 W hk1 hk2 hi1 hi2 HML.out HMB.out h1 (Sl.none_ _) name8_b Bytes.nil (by omega) hs11 h2 hPb (by omega) (by omega) hR h3)
      rw [← hPK, show KV key iv mask = .agg Q1 by rw [hQ1]; rfl] at CCl
      unfold HV at CCl
      have CPe := Lib.hid (fun Ap cp W (h : Sl W Ap cp PK) => Peek_ok key iv mask [49, 50, 51, 52, 53, 54, 55, 56] [] P [] false 2 ph 9 1 Ap cp W PK (by rw [hPK, List.append_nil]) h HML.out HMB.out name8_b Bytes.nil (by omega) hs11 hPb (by omega) (by omega) hR (fun _ => rfl) Bytes.nil (by decide))
      rw [← HMK.out, show (9 : Int) % 256 ^ 1 = 9 by decide] at CPe
      have COp := Lib.hid (fun Ap cp W (h : Sl W Ap cp PK) => pOpen_ok key iv mask [49, 50, 51, 52, 53, 54, 55, 56] [] P [] false 2 ph 9 1 Ap cp W PK (by rw [hPK, List.append_nil]) h hk1 hk2 hi1 hi2 HML.out HMB.out name8_b Bytes.nil (by omega) hs11 hPb (by omega) (by omega) hR (fun _ => rfl) Bytes.nil (by decide) 8 9 256 true (by omega) sw1 (by decide) (by decide) (by decide +kernel))
      rw [show KV key iv mask = .agg Q1 by rw [hQ1]; rfl] at COp
      have CSm := Lib.hid (fun (A1 A2 : Option Addr) (c1 c2 : Nat) W (h1 : Rd W A1 P) (h2 : Rd W A2 P) => same_any A1 A2 c1 c2 P P W h1 h2 hPb hPb)
      rw [sameB_refl] at CSm
      have IH := Lib.hid (show (Tryd.prog.info? 25).map (·.size) = some 5 by kernel_rfl)
      have kc := fun (w : World) (C : Array Value) (n c g : Nat) (hg : g = w.heap.size) => Joins.run_convert_bytes_const_at (P := Tryd.prog) w 23 5 C n c g hg Tryd.underlying23 Tryd.underlying5
      clear hP0 hP0l hP hPl hP0b bs bk bf bl hQ1 hR hs11 hPb hPK hs1 hk1 hk2 hi1 hi2
      go_wp2_with (first
        | (go_at_call 8; refine (CQ.out _ BL.out).mono ?_; rintro e w5 ⟨A5, c5, rfl, o5, b5⟩
           have BL5 := Lib.hid (BL.out.trans (b5.mono BL.out.size))
           have BK5 := Lib.hid (BK.out.below b5 BK.out.lt)
           have BF5 := Lib.hid (BF.out.below b5 BF.out.lt)
           have O5 := Lib.hid o5
           have hs5 := Lib.hid b5.size
           clear b5 o5)
        | (refine wpList_appX rfl (.tmp 37) (.tmp 38) rfl wr.heap.size (A := A5) (c := c5) (l := P0) (B := some ⟨w5.heap.size, 0, none⟩) (d := 3) (news := [1, 2, 3]) P HP.out rfl rfl (O5.out.below ((Below.refl w5.heap.size w5).alloc (Nat.le_refl _) _)) (lit_sl [1, 2, 3] (0, 0) (by decide) rfl rfl).rd (by have h := HP0.out; simp; omega) (by have h := hs5.out; simp; omega) ?_
           intro A6 c6 w6 o6 g6 b6
           have O6 := Lib.hid o6
           have b6' := b6
           have BL6 := Lib.hid (show Below w.heap.size w w6 from (BL5.out.alloc BL5.out.size (.cells (IV .u8 [1, 2, 3]).toArray 5)).trans (b6.mono BL.out.size))
           have BK6 := Lib.hid ((BK5.out.alloc (.cells (IV .u8 [1, 2, 3]).toArray 5)).below b6 BK.out.lt)
           have BF6 := Lib.hid ((BF5.out.alloc (.cells (IV .u8 [1, 2, 3]).toArray 5)).below b6 BF.out.lt)
           clear o6 g6 b6 b6')
        | refine wpList_load_row rfl 34 (.tmp 7) rfl gK rfl 34 Q1 (0, 0) _ BK6.out Tryd.underlying34 rfl (by rw [SQ1.out]; exact I76.out) ?_
        | (go_at_call 11
           have al : Below w6.heap.size w6 (w6.alloc (.cells (IV .u8 [49, 50, 51, 52, 53, 54, 55, 56]).toArray 5 (8, 9))) := (Below.refl _ _).alloc (Nat.le_refl _) _
           refine (CCl.out w6.heap.size A6 c6 (w6.alloc (.cells (IV .u8 [49, 50, 51, 52, 53, 54, 55, 56]).toArray 5 (8, 9))) (lit_sl [49, 50, 51, 52, 53, 54, 55, 56] (8, 9) (by decide) rfl rfl) (Sl.of_own (O6.out.below al)) (HT.out.below (BL6.out.trans (al.mono BL6.out.size)))).mono ?_
           rintro e w7 ⟨A7, c7, rfl, o7, b7⟩
           have b67 := al.trans (b7.mono al.size)
           have BL7 := Lib.hid (BL6.out.trans (b67.mono BL6.out.size))
           have BK7 := Lib.hid (BK6.out.below b67 BK6.out.lt)
           have BF7 := Lib.hid (BF6.out.below b67 BF6.out.lt)
           have O7 := Lib.hid (O6.out.below b67)
           have Y7 := Lib.hid (Sl.of_own o7)
           have CP7 := Lib.hid (CPe.out A7 c7 w7 Y7.out)
           obtain ⟨ZH, hZH⟩ : ∃ ZH : Array Value, ZH = #[.bool false, .int .i64 0, .bool false, .slice none 0 0, .slice none 0 0] := ⟨_, rfl⟩
           have hzh : ∀ w, (zeroValue 25).run Tryd.prog w = .ok (.agg ZH) w := by rw [hZH]; exact fun w => rfl
           have SZH := Lib.hid (show ZH.size = 5 by rw [hZH]; rfl)
           clear o7 b7 al b67 hZH)
        | refine wpList_load_row rfl 22 (.tmp 8) rfl gF rfl 22 MK.toArray (0, 0) _ BF7.out Tryd.underlying22 rfl (by rw [SMK.out]; exact I32.out) ?_
        | (go_at_call 19; refine CP7.out.mono ?_; rintro e w8 ⟨B1, d1, B2, d2, rfl, b8⟩
           obtain ⟨HA, hHA⟩ : ∃ HA : Array Value, HA = #[.bool false, .int .i64 2, .bool ph, .slice B1 ([49, 50, 51, 52, 53, 54, 55, 56] : List Int).length d1, .slice B2 ([] : List Int).length d2] := ⟨_, rfl⟩
           rw [← hHA]
           have HHA := Lib.hid hHA
           have SHA := Lib.hid (show HA.size = 5 by rw [hHA]; rfl)
           have AHA := Lib.hid (show HA.all (·.oneCell') = true by rw [hHA]; simp [Value.oneCell'])
           have BL8 := Lib.hid (BL7.out.trans (b8.mono BL7.out.size))
           have BK8 := Lib.hid (BK7.out.below b8 BK7.out.lt)
           have O8 := Lib.hid (O7.out.below b8)
           have Y8 := Lib.hid (Y7.out.below b8)
           clear b8 hHA)
        | (refine wpList_store_row rfl 25 (.tmp 11) (.tmp 56) rfl w8.heap.size HA rfl rfl 25 ZH (Blk.new w8 _ _) (by rw [SHA.out]; exact IH.out) (by rw [SHA.out, SZH.out]) AHA.out ?_
           have H9 := Lib.hid (Blk.row (Blk.new w8 25 ZH) HA)
           have b9 := (below_setRow ((Below.refl w8.heap.size w8).alloc (Nat.le_refl _) (.cells ZH 25)) (Nat.le_refl _) HA)
           have BL9 := Lib.hid (BL8.out.trans (b9.mono BL8.out.size))
           have BK9 := Lib.hid (BK8.out.below b9 BK8.out.lt)
           have O9 := Lib.hid (O8.out.below b9)
           have Y9 := Lib.hid (Y8.out.below b9)
           clear b9
           generalize (w8.alloc (.cells ZH 25)).setRow w8.heap.size HA = w9 at H9 BL9 BK9 O9 Y9 ⊢
           have CO9 := Lib.hid (COp.out A7 c7 w9 Y9.out))
        | refine wpList_load_row rfl 34 (.tmp 7) rfl gK rfl 34 Q1 (0, 0) _ BK9.out Tryd.underlying34 rfl (by rw [SQ1.out]; exact I76.out) ?_
        | (go_at_call 13; refine CO9.out.mono ?_; rintro e w10 ⟨D1, f1, D2, f2, D3, f3, D4, f4, rfl, _, _, o3, _, b10⟩
           obtain ⟨HB, hHB⟩ : ∃ HB : Array Value, HB = #[.bool false, .int .i64 2, .bool ph, .slice D1 ([49, 50, 51, 52, 53, 54, 55, 56] : List Int).length f1, .slice D2 ([] : List Int).length f2] := ⟨_, rfl⟩
           rw [← hHB]
           have SHB := Lib.hid (show HB.size = 5 by rw [hHB]; rfl)
           have AHB := Lib.hid (show HB.all (·.oneCell') = true by rw [hHB]; simp [Value.oneCell'])
           have BL10 := Lib.hid (BL9.out.trans (b10.mono BL9.out.size))
           have O10 := Lib.hid (O9.out.below b10)
           have H10 := Lib.hid (H9.out.below b10 H9.out.lt)
           have T10 := Lib.hid (Rd.of_own o3)
           clear o3 b10 hHB)
        | (refine wpList_store_row rfl 25 (.tmp 15) (.tmp 64) rfl w10.heap.size HB rfl rfl 25 ZH (Blk.new w10 _ _) (by rw [SHB.out]; exact IH.out) (by rw [SHB.out, SZH.out]) AHB.out ?_
           have b11 := (below_setRow ((Below.refl w10.heap.size w10).alloc (Nat.le_refl _) (.cells ZH 25)) (Nat.le_refl _) HB)
           have BL11 := Lib.hid (BL10.out.trans (b11.mono BL10.out.size))
           have O11 := Lib.hid (O10.out.below b11)
           have H11 := Lib.hid (H10.out.below b11 H10.out.lt)
           have T11 := Lib.hid (T10.out.below b11)
           clear b11
           generalize (w10.alloc (.cells ZH 25)).setRow w10.heap.size HB = w11 at BL11 O11 H11 T11 ⊢
           have k2 : w11.cell? ⟨w8.heap.size, 2, none⟩ = some (.bool ph) := by have h := H11.out.cell 2; rw [HHA.out] at h; exact h
           have CS11 := Lib.hid (CSm.out D3 A6 f3 c6 w11 T11.out (Rd.of_own O11.out)))
        | (go_at_call 16; refine CS11.out.mono ?_; rintro e w12 ⟨rfl, rfl⟩))
      go_ret
      exact ⟨rfl, BL11.out⟩
end Go.Proofs.YtjibbegdieiknaaDoor
