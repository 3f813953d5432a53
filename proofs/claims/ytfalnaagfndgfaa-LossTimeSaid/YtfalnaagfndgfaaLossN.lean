/-
  LossTime: the walk.
-/
import Derived.Test.YtfalnaagfndgfaaLossM
namespace Go.Proofs.Ytfalnaagfndgfaa
open Go.RowKit
set_option linter.unusedVariables false
set_option linter.unusedSimpArgs false
theorem wf_u16' {n : Int} (h : (Lit.int .u16 n).wf = true) : 0 ≤ n ∧ n < 65536 := by
  have := h
  simp [Lit.wf, IntKind.min, IntKind.max, IntKind.bits, IntKind.signed] at this
  omega
set_option maxRecDepth 100000 in
set_option maxHeartbeats 1600000 in
theorem time_walk (A : Option Addr) (c : Nat) (l : List Int) (t : Int) (w : World) (hr : Rd w A l) (hb : Bytes l) (hlc : l.length ≤ c) (hcm : c ≤ 9223372036854775807) (ht : 0 ≤ t ∧ t < 65536) :
    Calls Try.prog 6 #[.slice A l.length c, .int .u16 t] w fun r w' => r = .returned (.bool true) ∧ Below w.heap.size w w' := by
  obtain ⟨N, hN⟩ : ∃ N, N = min l.length 2 := ⟨_, rfl⟩
  have hN2 : N ≤ 2 := by omega
  have hNl : N ≤ l.length := by omega
  have hNI : min (l.length : Int) 2 = (N : Int) := by omega
  have hwN : IntKind.u64.wrap (N : Int) = (N : Int) := IntWalk.u64_in _ (by omega)
  have HR := Lib.hid hr
  have HB := Lib.hid hb
  clear hr hN
  go_enter Try.func6, Try.ntmps6
  go_wp2_with fail
  refine (awake9_any _).mono ?_
  rintro e w1 ⟨rfl, b1⟩
  have B1 := Lib.hid b1
  clear b1
  go_wp2_with fail
  refine (LNew_any w1 w1.heap.size (Nat.le_refl _)).mono ?_
  rintro e w2 ⟨g, rfl, h2, hg, b2⟩
  have hz1 := B1.out.size
  have hz2 := b2.size
  have B2 := B1.out.trans (b2.mono hz1)
  have R2 : Led w2 w1.heap.size g none 0 (tmG l 0) := h2
  clear h2 b2 B1
  go_wp2_with fail
  go_loopw [20, 7] (fun i f wr => ∃ (k : Nat) (A' : Option Addr) (c' : Nat), k ≤ N ∧ i = .int .u64 (k : Int) ∧ f = .int .u64 (tmF l k) ∧ Led wr w1.heap.size g A' c' (tmG l k) ∧ Below w.heap.size w wr) (fun i _ _ => N - (intOf i).toNat)
  case atStart => exact ⟨0, none, 0, by omega, rfl, rfl, R2, B2⟩
  case round =>
    obtain ⟨k, A', c', hk, rfl, rfl, hL, hB⟩ := hrel
    clear R2 B2
    have hzr := hB.size
    by_cases hlt : k < N
    · obtain ⟨b, off, rfl, zb⟩ := (HR.out.below hB).some_ (by omega)
      obtain ⟨x, hx⟩ : ∃ x, l[k]? = some x := ⟨_, List.getElem?_eq_getElem (by omega)⟩
      have q0 := (HR.out.below hB).cell hx
      have hxb := HB.out.at hx
      have hta : tmA l k = 100 + x := by unfold tmA; rw [hx]; rfl
      obtain ⟨e1, e2⟩ := tm_send l HB.out k (by omega)
      have hF := tmF_ok HB.out k
      have hF2 := tmF_succ l k
      rw [hta] at hF2 e1 e2
      generalize tmF l k = F at *
      have hHS := LSend_any w1.heap.size g A' c' (tmG l k) ⟨(k : Int), 100 + x, 1, true⟩ wr hL (by have := hL.lt; have := hL.le; omega) (by simp only; omega) (by show (tmL l k).length ≤ _; rw [tmL_length]; omega)
      rw [e1, e2] at hHS
      have HS := Lib.hid hHS
      have HL := Lib.hid hL
      have HBB := Lib.hid hB
      have HF2 := Lib.hid hF2
      have hw1 : IntKind.u64.wrap (100 + x) = 100 + x := IntWalk.u64_in _ (by omega)
      have hw2 : IntKind.u64.wrap ((k : Int) + 1) = (k : Int) + 1 := IntWalk.u64_in _ (by omega)
      clear hHS hL hB hF2 hta e1 e2 hx
      go_wp2_with fail
      refine HS.out.mono ?_
      rintro e w3 ⟨rfl, ⟨A2, c2, h3, _⟩, f3⟩
      have H3 := Lib.hid h3
      have B3 := Lib.hid (HBB.out.trans ((HL.out.belowS f3 (by have := HL.out.lt; have := HL.out.le; omega)).mono hz1))
      clear h3 f3 HS
      go_wp2_with fail
      go_roundw
      case rel => exact ⟨k + 1, A2, c2, by omega, by go_num, by rw [HF2.out], H3.out, B3.out⟩
      case measure => simp [intOf]; omega
    · have hd : decide ((k : Int) < (N : Int)) = false := by simpa using hlt
      obtain rfl : k = N := by omega
      obtain ⟨e1, e2⟩ := tm_last l k (by omega)
      have hHS := LSend_any w1.heap.size g A' c' (tmG l k) ⟨(k : Int), 500, 1, true⟩ wr hL (by have := hL.lt; have := hL.le; omega) (by simp only; omega) (by show (tmL l k).length ≤ _; rw [tmL_length]; omega)
      rw [e1, e2] at hHS
      have okH : LgOk (tmH l k) := by
        rw [← e2]
        exact lSend_ok (tm_ok l HB.out k (by omega)) (by simp only; omega) (by simp) (by simp)
      obtain ⟨a1, a2⟩ := tm_ack l k
      have okK : LgOk (tmK l k) := by rw [← a2]; exact lAck_ok okH
      have hDU := tm_due l HB.out k t ht
      have hF := tmF_ok HB.out k
      have hl0 := tm_lost0 l HB.out k (by omega) t ht.1
      have hl1 := fun h0 => tm_lost1 l HB.out k h0 t ht.1
      have hlenK : (tmK l k).op.length = k := tmL_length l k
      have hlenH : (tmH l k).op.length ≤ 3 := by unfold tmH; simp [tmL_length]; omega
      generalize tmF l k = F at *
      have HS := Lib.hid hHS
      have HL := Lib.hid hL
      have HBB := Lib.hid hB
      have HLEN := Lib.hid hlenK
      have HL0 := Lib.hid hl0
      have HL1 := Lib.hid hl1
      have HDU := Lib.hid hDU
      have A1 := Lib.hid a1
      have A2 := Lib.hid a2
      clear hHS hL hB e1 e2 a1 a2 hDU hl0 hl1 hlenK
      generalize tmH l k = LH at *
      generalize tmK l k = LK at *
      go_wp2_with fail
      refine HS.out.mono ?_
      rintro e w3 ⟨rfl, ⟨A3, c3, h3, _⟩, f3⟩
      have b3 := HBB.out.trans ((HL.out.belowS f3 (by have := HL.out.lt; have := HL.out.le; omega)).mono hz1)
      obtain ⟨W, hW⟩ : ∃ W, W = w3.alloc (.cells #[.int .u64 (k : Int), .int .u64 (k : Int)] 63) := ⟨_, rfl⟩
      have bW : Below w3.heap.size w3 W := by rw [hW]; exact (Below.refl _ _).alloc (Nat.le_refl _) _
      have hr1 : RdG W (some ⟨w3.heap.size, 0, none⟩) [((k : Int), (k : Int))] := by rw [hW]; exact one_range w3 _ _
      have hWL := h3.below bW
      have hz3 := f3.size
      have hzW := bW.size
      have hACK := LAck_any w1.heap.size g A3 c3 LH (some ⟨w3.heap.size, 0, none⟩) 1 [((k : Int), (k : Int))] W hWL okH hr1 (fun a ha => by injection ha with ha; rw [← ha]; have := h3.lt; simp; omega) (fun x hx => by simp at hx; subst hx; exact ⟨⟨by omega, by simp only; omega⟩, ⟨by omega, by simp only; omega⟩⟩) (by have := hWL.lt; have := hWL.le; omega) (by omega) (by simp)
      rw [A1.out] at hACK
      have HACK := Lib.hid hACK
      have HWL := Lib.hid hWL
      have BW := Lib.hid (b3.trans (bW.mono (by have := b3.size; omega)))
      clear h3 b3 f3 bW hr1 hWL hACK HS HL HBB
      go_wp2_with fail
      rw [← hW]
      clear hW
      refine HACK.out.mono ?_
      rintro e w4 ⟨A4, c4, rfl, _, ⟨⟨A5, c5, h5, s5⟩, f5⟩⟩
      rw [A2.out] at h5
      have b5 := BW.out.trans ((HWL.out.belowS f5 (by have := HWL.out.lt; have := HWL.out.le; omega)).mono hz1)
      have hDUE := LDue_any w1.heap.size g A5 c5 LK t w4 h5 okK (by have := HLEN.out; omega) ht.1
      rw [HDU.out] at hDUE
      have HD := Lib.hid hDUE
      have H5 := Lib.hid h5
      have B5 := Lib.hid b5
      have hz5 := f5.size
      clear h5 b5 f5 hDUE s5 HACK BW HWL
      rcases Nat.eq_zero_or_pos k with h0 | h0
      · subst h0
        have HD2 := HD.out
        simp only [if_true] at HD2
        have HD := Lib.hid HD2
        clear HD2
        go_wp2_with fail
        refine HD.out.mono ?_
        rintro e w6 ⟨rfl, b6⟩
        have h6 := H5.out.below b6
        have hLO := LLost_any w1.heap.size g A5 c5 LK 1099511627776 0 w6 h6 okK ⟨by omega, by omega⟩ (by have := HLEN.out; omega)
        have h00 : LK.op = [] := List.eq_nil_of_length_eq_zero HLEN.out
        have h01 : LK.op.filter (lostP LK 1099511627776 0) = [] := by rw [h00]; rfl
        rw [h01] at hLO
        have HLO := Lib.hid hLO
        have H6 := Lib.hid h6
        have B6 := Lib.hid (B5.out.trans (b6.mono (by have := B5.out.size; exact this)))
        clear hLO h6 b6 h00 h01 HD H5 B5
        simp only
        go_wp2_with fail
        refine HLO.out.mono ?_
        rintro e w7 ⟨A7, c7, rfl, h7⟩
        have B7 := Lib.hid (B6.out.trans ((H6.out.belowS h7.to.fr (by have := H6.out.lt; have := H6.out.le; omega)).mono hz1))
        clear h7 HLO
        simp only [List.length_nil]
        go_wp2_with fail
        go_ret
        exact ⟨rfl, B7.out⟩
      · have hne : ¬ k = 0 := by omega
        have HD2 := HD.out
        rw [if_neg hne] at HD2
        simp only at HD2
        have HD := Lib.hid HD2
        have hFb := hF.2.2 h0
        have hwF : IntKind.u64.wrap (F + t) = F + t := IntWalk.u64_in _ (by omega)
        have hwF1 : IntKind.u64.wrap (F + t - 1) = F + t - 1 := IntWalk.u64_in _ (by omega)
        have hwk : IntKind.i64.wrap (k : Int) = (k : Int) := IntWalk.i64_in _ (by omega)
        have hkp : decide (0 < (k : Int)) = true := by simp; omega
        have hk0 : ((k : Int) == 0) = false := by simp; omega
        have hkk := HLEN.out
        have hq1 : lLost LK (F + t - 1) t = LK := by
          have h9 : LK.op.filter (fun p => !lostP LK (F + t - 1) t p) = LK.op := List.filter_eq_self.2 fun p hp => by
            have := List.filter_eq_nil_iff.1 HL0.out p hp
            simpa using this
          unfold lLost
          rw [h9]
        have hbl := filter_both (lostP LK (F + t) t) LK.op
        have hl1 := HL1.out h0
        have ok2 : LgOk (lLost LK (F + t) t) := lLost_ok _ _ okK
        have hbl2 : ((lLost LK (F + t) t).op.filter (lostP (lLost LK (F + t) t) 2199023255552 t)).length ≤ (lLost LK (F + t) t).op.length := List.length_filter_le _ _
        have hop2 : (lLost LK (F + t) t).op.length = (LK.op.filter (fun p => !lostP LK (F + t) t p)).length := rfl
        obtain ⟨n1, hn1⟩ : ∃ n1, n1 = (LK.op.filter (lostP LK (F + t) t)).length := ⟨_, rfl⟩
        obtain ⟨n2, hn2⟩ : ∃ n2, n2 = ((lLost LK (F + t) t).op.filter (lostP (lLost LK (F + t) t) 2199023255552 t)).length := ⟨_, rfl⟩
        have hx1 : 0 < n1 := by omega
        have hx2 : n2 + 1 ≤ k := by omega
        have hx3 : (lLost LK (F + t) t).op.length ≤ 1000000 := by omega
        have N1 := Lib.hid hn1
        have N2 := Lib.hid hn2
        have Q1 := Lib.hid hq1
        have d1 : decide (0 < (n1 : Int)) = true := by simp; omega
        have d2 : decide ((n2 : Int) + 1 ≤ (k : Int)) = true := by simp; omega
        have hwn2 : IntKind.i64.wrap ((n2 : Int) + 1) = (n2 : Int) + 1 := IntWalk.i64_in _ (by omega)
        clear HD2 hbl hbl2 hop2 hn1 hn2 hq1 hl1 hkk
        go_wp2_with fail
        refine HD.out.mono ?_
        rintro e w6 ⟨rfl, b6⟩
        have h6 := H5.out.below b6
        have hLO := LLost_any w1.heap.size g A5 c5 LK (F + t - 1) t w6 h6 okK ⟨by omega, by omega⟩ (by have := HLEN.out; omega)
        rw [HL0.out, Q1.out] at hLO
        have HLO := Lib.hid hLO
        have H6 := Lib.hid h6
        have B6 := Lib.hid (B5.out.trans (b6.mono (by have := B5.out.size; exact this)))
        clear hLO h6 b6 HD H5 B5
        go_wp2_with fail
        refine HLO.out.mono ?_
        rintro e w7 ⟨A7, c7, rfl, h7⟩
        obtain ⟨⟨A8, c8, h8, _⟩, f8⟩ := h7.to
        have b8 := B6.out.trans ((H6.out.belowS f8 (by have := H6.out.lt; have := H6.out.le; omega)).mono hz1)
        have hLO2 := LLost_any w1.heap.size g A8 c8 LK (F + t) t w7 h8 okK ⟨by omega, by omega⟩ (by have := HLEN.out; omega)
        rw [← N1.out] at hLO2
        have HLO2 := Lib.hid hLO2
        have H8 := Lib.hid h8
        have B8 := Lib.hid b8
        clear hLO2 h8 b8 h7 f8 HLO H6 B6
        simp only [List.length_nil]
        go_wp2_with fail
        refine HLO2.out.mono ?_
        rintro e w9 ⟨A9, c9, rfl, h9⟩
        obtain ⟨⟨A10, c10, h10, _⟩, f10⟩ := h9.to
        have b10 := B8.out.trans ((H8.out.belowS f10 (by have := H8.out.lt; have := H8.out.le; omega)).mono hz1)
        have hLO3 := LLost_any w1.heap.size g A10 c10 (lLost LK (F + t) t) 2199023255552 t w9 h10 ok2 ⟨by omega, by omega⟩ hx3
        rw [← N2.out] at hLO3
        have HLO3 := Lib.hid hLO3
        have H10 := Lib.hid h10
        have B10 := Lib.hid b10
        clear hLO3 h10 b10 h9 f10 HLO2 H8 B8
        go_wp2_with fail
        refine HLO3.out.mono ?_
        rintro e w11 ⟨A11, c11, rfl, h11⟩
        have b12 := Lib.hid (B10.out.trans ((H10.out.belowS h11.to.fr (by have := H10.out.lt; have := H10.out.le; omega)).mono hz1))
        clear h11 HLO3
        go_wp2_with fail
        go_ret
        exact ⟨rfl, b12.out⟩
theorem time_walkF (A : Option Addr) (c : Nat) (l : List Int) (t : Int) (w : World) (hr : Rd w A l) (hb : Bytes l) (hlc : l.length ≤ c) (hcm : c ≤ 9223372036854775807) (hA : A = none → c = 0) (ht : (Lit.int .u16 t).wf = true) :
    Calls Try.prog 6 #[.slice A l.length c, .int .u16 t] w fun r w' => r = .returned (.bool true) ∧ Below w.heap.size w w' :=
  time_walk A c l t w hr hb hlc hcm (wf_u16' ht)
end Go.Proofs.Ytfalnaagfndgfaa
