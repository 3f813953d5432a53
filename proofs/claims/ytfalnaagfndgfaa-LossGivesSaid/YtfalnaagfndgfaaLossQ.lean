/-
  LossGives: the walk.
-/
import Derived.Test.YtfalnaagfndgfaaLossP
import Derived.Test.YtfalnaagfndgfaaOpenFrame
namespace Go.Proofs.Ytfalnaagfndgfaa
open Go.RowKit
set_option linter.unusedVariables false
set_option linter.unusedSimpArgs false
set_option maxRecDepth 100000 in
theorem gives_walk (n : Int) (A0 : Option Addr) (c0 : Nat) (r : List (Int × Int)) (w : World) (hn : 0 ≤ n ∧ n < 256) (hr : RdG w A0 r) (hro : ∀ x ∈ r, PairOk x) (hrl : r.length ≤ 9223372036854775807) :
    Calls Try.prog 7 #[.int .u8 n, .slice A0 r.length c0] w fun e w' => e = .returned (.bool true) ∧ Below w.heap.size w w' := by
  obtain ⟨K, hK⟩ : ∃ K : Nat, (K : Int) = 1 + n % 30 := ⟨(1 + n % 30).toNat, by omega⟩
  have hK30 : K ≤ 30 := by omega
  have hK1 : 1 ≤ K := by omega
  have hwK : IntKind.u64.wrap (1 + n % 30) = (K : Int) := by rw [hK]; exact IntWalk.u64_in _ (by omega)
  clear hK
  have hmm := @run_makeMap Try.prog
  go_enter Try.func7, Try.ntmps7
  go_wp2_with fail
  refine (awake9_any _).mono ?_
  rintro e w1 ⟨rfl, b1⟩
  have B1 := Lib.hid b1
  clear b1
  go_wp2_with fail
  refine (sent_any K _ (by omega)).mono ?_
  rintro e w2 ⟨g, A, c, rfl, h2, b2⟩
  have hz1 := B1.out.size
  have hz2 := b2.size
  obtain ⟨W3, hW3⟩ : ∃ W3, W3 = w2.alloc (.map #[] 0) := ⟨_, rfl⟩
  have zW3 : W3.heap.size = w2.heap.size + 1 := by rw [hW3]; simp
  have bW3 : Below w2.heap.size w2 W3 := by rw [hW3]; exact (Below.refl _ _).alloc (Nat.le_refl _) _
  have M3 : MapS W3 w2.heap.size 0 [] := by rw [hW3]; exact MapS.made w2
  have L3 := h2.below bW3
  have B3 := B1.out.trans ((b2.mono hz1).trans (bW3.mono (by omega)))
  have HW3 := Lib.hid hW3
  have HM3 := Lib.hid M3
  have HL3 := Lib.hid L3
  have HB3 := Lib.hid B3
  have HR := Lib.hid hr
  have HRO := Lib.hid hro
  have hnb : ¬ LedS g A w2.heap.size := M3.ledS L3
  have hg3 := L3.lt
  clear h2 b2 bW3 M3 L3 B3 hr hro hW3
  go_wp2_with fail
  rw [← HW3.out]
  go_loopw [29, 7] (fun i o wr => ∃ (k m nn : Nat) (T : List Int) (A1 : Option Addr) (c1 : Nat), k ≤ r.length ∧ i = .int .i64 k ∧ o = .slice A1 m c1 ∧ Hid (GV W3 wr w2.heap.size K r k m nn T A1 c1)) (fun i _ _ => r.length - (intOf i).toNat)
  case atStart => exact ⟨0, 0, 0, [], none, 0, by omega, rfl, rfl, Lib.hid ⟨OwnV.nil _ _ _ _, rfl, HM3.out, by omega, List.nodup_nil, fun x => by simp [okS, Named], Frm.refl _ _⟩⟩
  case round =>
    obtain ⟨k, m, nn, T, A1, c1, hk, rfl, rfl, HG⟩ := hrel
    have hBw : Below w.heap.size w wr := HB3.out.trans (HG.out.fr.below HB3.out.size (fun b hb e => by omega))
    by_cases hlt : k < r.length
    · obtain ⟨b, off, p, hA0, hbz, hx, x0, x1⟩ := (HR.out.below hBw).at_ hlt
      have hp := HRO.out p (List.mem_of_getElem? hx)
      obtain ⟨f, t⟩ := p
      simp only at x0 x1
      unfold PairOk at hp
      simp only at hp
      subst hA0
      by_cases hk6 : k < 6
      · by_cases h1 : f ≤ t
        · by_cases h2 : t ≤ K
          · have HGD := Lib.hid (okS_good hx hk6 (K := (K : Int)) (by unfold goodR; simp; exact ⟨h1, h2⟩))
            have hnew : RdG ((wr.alloc (.cells #[.int .u64 f, .int .u64 t] 63)).alloc (.cells #[.int .u64 f, .int .u64 t] 63)) (some ⟨wr.heap.size + 1, 0, none⟩) [(f, t)] := by
              have h := one_range (wr.alloc (.cells #[.int .u64 f, .int .u64 t] 63)) f t
              rwa [show (wr.alloc (.cells #[.int .u64 f, .int .u64 t] 63)).heap.size = wr.heap.size + 1 by simp] at h
            have HNEW := Lib.hid hnew
            have hm6 : m ≤ 6 := by rw [HG.out.len]; exact okS_len _ _ _
            have hz := HG.out.fr.size
            have e1 : decide (k < 6) = true := by simpa using hk6
            have e2 : decide (f ≤ t) = true := by simpa using h1
            have e3 : decide (t ≤ (K : Int)) = true := by simpa using h2
            clear hnew hBw hx
            go_wp2_with (at_builtin; go_must (refine wpList_appV rfl (.tmp 49) (.tmp 51) 33 63 2 16 (.agg #[.int .u64 0, .int .u64 0]) rfl Try.underlying33 info_range rfl (by omega) W3.heap.size (n := m) (m := 1) (xs := RgV (okS K r k)) (news := RgV [(f, t)]) (d := 1) rfl rfl (OwnV.below HG.out.own (((Below.refl _ _).alloc (Nat.le_refl _) _).alloc (by simp) _)) HNEW.out (RgV_one _) (by unfold maxLen; omega) (by omega) (by simp; omega) ?_); intro A' c' w7 hown hg7 hb7; have k7 := (((Blk.new wr 63 #[.int .u64 f, .int .u64 t]).alloc _).grown hg7 (fun e => absurd (OwnV.row_lt HG.out.own e.symm) (Nat.lt_irrefl _))); have y0 := k7.cell 0; have y1 := k7.cell 1; have z7 := k7.lt; simp at y0 y1)
            obtain ⟨J0, hJ0⟩ : ∃ J0 : Nat, (J0 : Int) = max f 1 := ⟨(max f 1).toNat, by omega⟩
            have M7 : MapS w7 w2.heap.size nn T := ((HG.out.map.alloc _).alloc _).kept hg7 (fun e => HG.out.map.own HG.out.own w2.heap.size e.symm rfl)
            have HM7 := Lib.hid M7
            have HOWN := Lib.hid hown
            have HK7 := Lib.hid k7
            have HF7 : Hid (Frm W3 w7 (fun b => b = w2.heap.size)) := Lib.hid (((HG.out.fr.alloc _).alloc _).grown hg7 (fun r hr => .inl (OwnV.row_ge HG.out.own r hr)))
            have hcap := HG.out.cap
            rw [← hJ0]
            have hst : ∀ x, x ∈ T ↔ Named (okS (K : Int) r k) x ∨ (max f 1 ≤ x ∧ x < J0) := fun x => by
              rw [HG.out.mem x]
              constructor
              · exact .inl
              · rintro (h | h)
                · exact h
                · omega
            have HST := Lib.hid hst
            have HJ0 := Lib.hid hJ0
            clear M7 hown k7 hg7 hb7 y0 y1 x0 x1 hst hJ0
            go_loopw [11] (fun i wr2 => ∃ (j n2 : Nat) (T2 : List Int), i = .int .u64 j ∧ J0 ≤ j ∧ (j : Int) ≤ t + 1 ∧ Hid (MapS wr2 w2.heap.size n2 T2 ∧ n2 ≤ nn + j ∧ T2.Nodup ∧ (∀ x, x ∈ T2 ↔ Named (okS (K : Int) r k) x ∨ (max f 1 ≤ x ∧ x < j)) ∧ Frm w7 wr2 (fun b => b = w2.heap.size))) (fun i _ => K + 1 - (intOf i).toNat)
            case atStart => exact ⟨J0, nn, T, rfl, by omega, by have := HJ0.out; omega, Lib.hid ⟨HM7.out, by omega, HG.out.nod, HST.out, Frm.refl _ _⟩⟩
            case round =>
              obtain ⟨j, n2, T2, rfl, hj0, hjt, HI⟩ := hrel
              have k8 := HI.out.2.2.2.2.keep HK7.out (by omega)
              have y1 := k8.cell 1
              simp at y1
              have hn2 := HI.out.2.1
              clear k8
              by_cases hjl : (j : Int) ≤ t
              · have e4 : decide ((j : Int) ≤ t) = true := by simpa using hjl
                have hwf := wfU (x := (j : Int)) (by omega) (by omega)
                have hwj : IntKind.u64.wrap ((j : Int) + 1) = (j : Int) + 1 := IntWalk.u64_in _ (by omega)
                go_wp2_with (at_mapUpdate; go_must (refine wpList_mapS rfl (.tmp 62) (.tmp 63) (.const (.bool true)) rfl w2.heap.size n2 T2 j rfl rfl rfl hwf HI.out.1 (by unfold maxLen; omega) ?_); intro w9 m9 g9)
                go_roundw
                case rel =>
                  have hJ0 := HJ0.out
                  refine ⟨j + 1, n2 + 1, _, by go_num, by omega, by omega, Lib.hid ⟨m9, by omega, nodup_add HI.out.2.2.1, fun x => ?_, HI.out.2.2.2.2.grown g9 (fun r hr => .inr (by injection hr with hr; exact hr.symm))⟩⟩
                  have h8 : (x ∈ T2 ++ if (j : Int) ∈ T2 then [] else [(j : Int)]) ↔ (x ∈ T2 ∨ x = j) := by
                    by_cases hm : (j : Int) ∈ T2
                    · rw [if_pos hm, List.append_nil]
                      exact ⟨fun h => .inl h, fun h => h.elim id (fun e => e ▸ hm)⟩
                    · rw [if_neg hm]; simp
                  rw [h8, HI.out.2.2.2.1 x]
                  constructor
                  · rintro ((h | h) | h)
                    · exact .inl h
                    · right; omega
                    · right; omega
                  · rintro (h | h)
                    · exact .inl (.inl h)
                    · by_cases hx : x = j
                      · exact .inr hx
                      · exact .inl (.inr (by omega))
                case measure => simp [intOf]; omega
              · have e4 : decide ((j : Int) ≤ t) = false := by simpa using hjl
                have hjt2 : (j : Int) = t + 1 := by omega
                have HJT := Lib.hid hjt2
                clear hjt2
                go_wp2_with fail
                go_roundw
                case rel =>
                  have hJT := HJT.out
                  refine ⟨k + 1, m + 1, n2, T2, A', c', by omega, by go_num, rfl, Lib.hid ⟨?_, ?_, HI.out.1, by omega, HI.out.2.2.1, fun x => ?_, HF7.out.trans HI.out.2.2.2.2⟩⟩
                  · rw [HGD.out, RgV_append]
                    exact OwnV.frm HOWN.out HI.out.2.2.2.2 (fun k hk e => HM7.out.own HOWN.out k hk (by rw [e]))
                  · rw [HGD.out, HG.out.len]; simp
                  · rw [HGD.out, HI.out.2.2.2.1 x, named_snoc, HJT.out]
                case measure => simp [intOf]; omega
          · have hgf : goodR (K : Int) (f, t) = false := by unfold goodR; simp; intro _; omega
            have HGD := Lib.hid (okS_bad (K := (K : Int)) hx hgf)
            have e1 : decide (k < 6) = true := by simpa using hk6
            have e2 : decide (f ≤ t) = true := by simpa using h1
            have e3 : decide (t ≤ (K : Int)) = false := by simpa using h2
            clear hBw hx hgf
            go_wp2_with fail
            go_roundw
            case rel => exact ⟨k + 1, m, nn, T, A1, c1, by omega, by go_num, rfl, Lib.hid (HG.out.skip HGD.out _)⟩
            case measure => simp [intOf]; omega
        · have hgf : goodR (K : Int) (f, t) = false := by unfold goodR; simp; intro _; omega
          have HGD := Lib.hid (okS_bad (K := (K : Int)) hx hgf)
          have e1 : decide (k < 6) = true := by simpa using hk6
          have e2 : decide (f ≤ t) = false := by simpa using h1
          clear hBw hx hgf
          go_wp2_with fail
          go_roundw
          case rel => exact ⟨k + 1, m, nn, T, A1, c1, by omega, by go_num, rfl, Lib.hid (HG.out.skip HGD.out _)⟩
          case measure => simp [intOf]; omega
      · have HGD := Lib.hid (okS_far (K := (K : Int)) (r := r) hk6)
        have e1 : decide (k < 6) = false := by simpa using hk6
        clear hBw hx
        go_wp2_with fail
        go_roundw
        case rel => exact ⟨k + 1, m, nn, T, A1, c1, by omega, by go_num, rfl, Lib.hid (HG.out.skip HGD.out _)⟩
        case measure => simp [intOf]; omega
    · rename World => wv
      have hd : decide (k < r.length) = false := by simpa using hlt
      obtain ⟨L, hL⟩ : ∃ L, L = okS (K : Int) r k := ⟨_, rfl⟩
      have hLl : L.length ≤ 6 := by rw [hL]; exact okS_len _ _ _
      have hLo : ∀ x ∈ L, x.1 ≤ x.2 ∧ x.2 ≤ K := fun x hx => by rw [hL] at hx; exact ⟨(okS_ok hx).1, (okS_ok hx).2.1⟩
      have hLp : ∀ x ∈ L, PairOk x := fun x hx => by rw [hL] at hx; exact HRO.out x (okS_ok hx).2.2
      have hm := HG.out.len
      rw [← hL] at hm
      subst hm
      have own0 : OwnG wv W3.heap.size A1 c1 L := by have := HG.out.own; rw [← hL] at this; exact this
      have mem0 : ∀ x, x ∈ T ↔ Named L x := fun x => by rw [hL]; exact HG.out.mem x
      obtain ⟨e0, eL, elen, hin, eop, eoplen, hTK⟩ := gives_ack K L T (by omega) hK1 hLo HG.out.nod mem0
      obtain ⟨f0, fL, fop⟩ := again_ack K L (by omega) hLo e0
      have lfr := HL3.out.frm HG.out.fr (fun b hb e => by subst e; exact hnb hb)
      have hS : ∀ b, LedS g A b → b < W3.heap.size := fun b hb => by
        rcases hb with rfl | hb
        · exact hg3
        · exact OwnV.row_lt HL3.out.own (k := b) (by rw [← hb]; exact ownBlock_len _ _ _ _ _)
      have hzr := HG.out.fr.size
      have hrow : ∀ b, (Value.slice A1 L.length c1).ownBlock = some b → W3.heap.size ≤ b := fun b hb => OwnV.row_ge own0 b hb
      have hgne : ∀ a, A1 = some a → a.block ≠ g := fun a ha e => by
        subst ha
        have h1 : (Value.slice (some a) L.length c1).ownBlock = some a.block := rfl
        have := hrow _ h1
        omega
      have HACK := Lib.hid (LAck_any w1.heap.size g A c (sentG K) A1 c1 L wv lfr (sent_ok K (by omega)) own0.reads hgne hLp (by omega) (by show (sentL K).length ≤ _; rw [sentL_length]; omega) (by omega))
      have HE := Lib.hid (And.intro e0 (And.intro eL (And.intro elen (And.intro eop (And.intro eoplen (And.intro f0 (And.intro fL fop)))))))
      have HIN := Lib.hid hin
      have HOW := Lib.hid own0
      have HMP := Lib.hid HG.out.map
      have HLF := Lib.hid lfr
      have HBW := Lib.hid hBw
      have HS := Lib.hid hS
      have HRW := Lib.hid hrow
      have HGN := Lib.hid hgne
      have HLP := Lib.hid hLp
      clear hL hLo hLp own0 mem0 e0 eL elen hin eop eoplen f0 fL fop lfr hS hrow hgne hBw HG
      go_wp2_with fail
      refine HACK.out.mono ?_
      rintro e w4 ⟨A2, c2, rfl, hO, ⟨⟨A3, c3, h4, s4⟩, f4⟩⟩
      have M4 := HMP.out.frm f4 hnb
      have OW4 : OwnG w4 W3.heap.size A1 c1 L := OwnV.frm HOW.out f4 (fun b hb hs => by have := HRW.out b hb; have := HS.out b hs; omega)
      have B4 := HBW.out.trans ((HLF.out.belowS f4 (by omega)).mono hz1)
      rw [HE.out.2.1] at hO
      rw [HE.out.1, HE.out.2.1, HE.out.2.2.1]
      obtain ⟨OUT, hOUT⟩ : ∃ OUT, OUT = (sentL K).filter (inR L) := ⟨_, rfl⟩
      rw [← hOUT] at hO
      have hol : OUT.length = T.length := by rw [hOUT]; exact HE.out.2.2.1
      have hin := HIN.out
      rw [← hOUT] at hin
      have LN := M4.len 3
      have zf := f4.size
      have HO := Lib.hid hO
      have HM := Lib.hid M4
      have HLD := Lib.hid h4
      have HB4 := Lib.hid B4
      have HOW4 := Lib.hid OW4
      have HIN2 := Lib.hid hin
      have HS4 := Lib.hid s4
      have HOL := Lib.hid hol
      clear HACK hO M4 h4 s4 f4 B4 OW4 hOUT hin HIN HMP HLF HBW HOW hol
      go_wp2_with fail
      go_loopw [82] (fun i wr => ∃ k : Nat, k ≤ T.length ∧ i = .int .i64 k ∧ Hid (Frm w4 wr (fun _ => False))) (fun i _ => T.length - (intOf i).toNat)
      case atStart => exact ⟨0, by omega, rfl, Lib.hid (Frm.refl _ _)⟩
      case round =>
        obtain ⟨k2, hk2, rfl, HF⟩ := hrel
        clear LN
        by_cases hlt2 : k2 < T.length
        · obtain ⟨p, hx⟩ : ∃ p, OUT[k2]? = some p := ⟨_, List.getElem?_eq_getElem (by rw [HOL.out]; exact hlt2)⟩
          have hO2 : OwnP wr wv.heap.size A2 c2 OUT := OwnV.frm HO.out HF.out (fun _ _ h => h)
          obtain ⟨b, off, rfl, zb, hcell⟩ := hO2.at0 hx
          have hpn := HIN2.out p (List.mem_of_getElem? hx)
          have x0 := hcell 0 (by omega)
          have x1 := hcell 1 (by omega)
          have x2 := hcell 2 (by omega)
          have x3 := hcell 3 (by omega)
          clear hcell
          obtain ⟨nu, se, si, aq⟩ := p
          simp [PkC] at x0 x1 x2 x3
          rw [← Nat.add_assoc] at x1 x2 x3
          simp only at hpn
          have hwf := wfU (x := nu) (by omega) (by omega)
          have LK := ((HM.out.frm HF.out (fun h => h)).alloc (.cells #[.int .u64 nu, .int .u64 se, .int .i64 si, .bool aq] 49)).look hwf
          rw [show decide (nu ∈ T) = true from decide_eq_true hpn.1] at LK
          clear hx hO2
          go_wp2_with fail
          go_roundw
          case rel => exact ⟨k2 + 1, by omega, by go_num, Lib.hid (HF.out.alloc _)⟩
          case measure => simp [intOf]; omega
        · have hd2 : decide (k2 < T.length) = false := by simpa using hlt2
          have ok4 : LgOk (lAck (sentG K) L) := lAck_ok (sent_ok K (by omega))
          have L5 := HLD.out.frm HF.out (fun _ _ h => h)
          have HACK := Lib.hid (LAck_any w1.heap.size g A3 c3 (lAck (sentG K) L) A1 c1 L wr L5 ok4 (OwnG.reads (OwnV.frm HOW4.out HF.out (fun _ _ h => h))) HGN.out HLP.out (by have := HF.out.size; omega) (by rw [HE.out.2.2.2.1, HE.out.2.2.2.2.1]; omega) (by omega))
          have HL5 := Lib.hid L5
          clear ok4 L5
          go_wp2_with fail
          refine HACK.out.mono ?_
          rintro e w5 ⟨A4, c4, rfl, _, ⟨⟨A5, c5, h5, s5⟩, f5⟩⟩
          have hnb3 : ¬ LedS g A3 w2.heap.size := fun h => hnb (HS4.out _ h)
          have M5 := (HM.out.frm HF.out (fun h => h)).frm f5 hnb3
          have B5 := (HB4.out.trans (HF.out.below HB4.out.size (fun _ _ h => h))).trans ((HL5.out.belowS f5 (by have := HF.out.size; omega)).mono hz1)
          have lop : (lAck (lAck (sentG K) L) L).op.length = K - T.length := by rw [HE.out.2.2.2.2.2.2.2]; exact HE.out.2.2.2.2.1
          have HOP := LOpen_any w1.heap.size g A5 c5 _ w5 h5 (by rw [lop]; omega)
          rw [lop] at HOP
          have HOPEN := Lib.hid HOP
          rw [HE.out.2.2.2.2.2.1, HE.out.2.2.2.2.2.2.1]
          have HM5 := Lib.hid M5
          have HB5 := Lib.hid B5
          obtain ⟨D, hD⟩ : ∃ D : Nat, D = K - T.length := ⟨_, rfl⟩
          rw [← hD] at HOPEN
          have hwD : IntKind.u64.wrap (D : Int) = (D : Int) := IntWalk.u64_in _ (by omega)
          have hwT : IntKind.u64.wrap (T.length : Int) = (T.length : Int) := IntWalk.u64_in _ (by omega)
          have hwS : IntKind.u64.wrap ((K : Int) - (T.length : Int)) = (D : Int) := by rw [show (K : Int) - (T.length : Int) = (D : Int) by omega]; exact hwD
          have HDD := Lib.hid hD
          clear HACK h5 s5 f5 M5 B5 lop HOP hD
          go_wp2_with fail
          refine HOPEN.out.mono ?_
          rintro e w6 ⟨A6, c6, rfl, _, b6⟩
          have LN := (HM5.out.below b6).len 3
          have HB6 := Lib.hid b6
          have hz5 := HB5.out.size
          clear b6
          go_wp2_with fail
          go_ret
          exact ⟨rfl, HB5.out.trans (HB6.out.mono hz5)⟩
theorem gives_walkF (n : Int) (A0 : Option Addr) (c0 : Nat) (r : List (Int × Int)) (w : World) (hn : (Lit.int .u8 n).wf = true) (hs : SlG w A0 c0 r) :
    Calls Try.prog 7 #[.int .u8 n, .slice A0 r.length c0] w fun e w' => e = .returned (.bool true) ∧ Below w.heap.size w w' :=
  gives_walk n A0 c0 r w (wf_u8 hn) hs.rd hs.ok (Nat.le_trans hs.le hs.max)
end Go.Proofs.Ytfalnaagfndgfaa
