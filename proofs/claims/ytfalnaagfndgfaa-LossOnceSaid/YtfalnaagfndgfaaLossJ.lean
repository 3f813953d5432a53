/-
  LossThree.
-/
import Derived.Test.YtfalnaagfndgfaaLossI
import Derived.Test.YtfalnaagfndgfaaMapS
namespace Go.Proofs.Ytfalnaagfndgfaa
open Go.RowKit
set_option linter.unusedVariables false
set_option linter.unusedSimpArgs false
theorem OwnV.blk {w : World} {base : Nat} {e : TypeId} {size n : Nat} {A : Option Addr} {c : Nat} {xs : List Value} (h : OwnV w base e size A c n xs) {k : Nat} (hk : (Value.slice A n c).ownBlock = some k) : ∃ cs, Blk w k e cs := by
  rcases h.2 with ⟨h2, _⟩ | ⟨g, cap, cur, hv, _, hh, _⟩
  · rw [h2] at hk; cases hk
  · injection hv with hA; subst hA
    simp [Value.ownBlock] at hk
    subst hk
    exact ⟨cur, hh⟩
theorem Led.blkS {w : World} {base g : Nat} {A : Option Addr} {c : Nat} {l : LG} (h : Led w base g A c l) {b : Nat} (hb : LedS g A b) : ∃ t cs, Blk w b t cs := by
  rcases hb with rfl | hb
  · exact ⟨_, _, h.blk⟩
  · obtain ⟨cs, h1⟩ := OwnV.blk h.own (k := b) (by rw [← hb]; exact ownBlock_len _ _ _ _ _)
    exact ⟨_, cs, h1⟩
theorem Led.geS {w : World} {base g : Nat} {A : Option Addr} {c : Nat} {l : LG} (h : Led w base g A c l) {b : Nat} (hb : LedS g A b) : base ≤ b := by
  rcases hb with rfl | hb
  · exact h.le
  · exact OwnV.row_ge' h.own (k := b) (by rw [← hb]; exact ownBlock_len _ _ _ _ _)
/-- A call on a ledger leaves what lies below its base. -/
theorem Led.belowS {w w' : World} {base g : Nat} {A : Option Addr} {c : Nat} {l : LG} (h : Led w base g A c l) (hf : Frm w w' (LedS g A)) (hb : base ≤ w.heap.size) : Below base w w' := hf.below hb (fun b hlt hs => by have := h.geS hs; omega)
theorem MapS.frm {w w' : World} {B n : Nat} {T : List Int} {S : Nat → Prop} (h : MapS w B n T) (hf : Frm w w' S) (hs : ¬ S B) : MapS w' B n T := by
  have hlt := h.lt
  obtain ⟨D, ⟨es, ck, hb, r⟩, h2⟩ := h
  exact ⟨D, ⟨es, ck, (hf.blk B hlt hs).trans hb, r⟩, h2⟩
theorem MapS.ledS {w : World} {B n : Nat} {T : List Int} {base g : Nat} {A : Option Addr} {c : Nat} {l : LG} (h : MapS w B n T) (hl : Led w base g A c l) : ¬ LedS g A B := fun hs => by
  obtain ⟨t, cs, hb⟩ := hl.blkS hs
  exact h.ne_blk hb rfl
theorem MapS.own {w : World} {B m : Nat} {T : List Int} (h : MapS w B m T) {base : Nat} {e : TypeId} {size n : Nat} {A : Option Addr} {c : Nat} {xs : List Value} (ho : OwnV w base e size A c n xs) : ∀ k, (Value.slice A n c).ownBlock = some k → some B ≠ some k := fun k hk e => by
  injection e with e
  obtain ⟨cs, hb⟩ := OwnV.blk ho hk
  exact h.ne_blk hb e.symm
/-- One range, as the law lays it. -/
theorem one_range (w : World) (x y : Int) : RdG (w.alloc (.cells #[.int .u64 x, .int .u64 y] 63)) (some ⟨w.heap.size, 0, none⟩) [(x, y)] :=
  ⟨rfl, fun _ => ⟨_, rfl, by simp, two_new w _ _ _⟩⟩
theorem three_ack (K J : Nat) (h1 : 1 ≤ J) (h2 : J ≤ K) (hK : K ≤ 1000) : ackE (sentG K) [((J : Int), (J : Int))] = 0 ∧ lAck (sentG K) [((J : Int), (J : Int))] = ⟨(sentL K).filter (fun p => !inR [((J : Int), (J : Int))] p), (K : Int) + 1, J, true⟩ := by
  have e : ackE (sentG K) [((J : Int), (J : Int))] = 0 := by
    unfold ackE
    rw [if_neg (by simp), if_neg (by unfold sentG; simp; omega)]
  refine ⟨e, ?_⟩
  unfold lAck
  rw [if_pos e]
  unfold sentG
  simp [topR]
  omega
theorem three_mem (K J : Nat) (t i : Int) (h0 : 1 ≤ i) (hi : i ≤ K) :
    (∃ p ∈ ((sentL K).filter (fun p => !inR [((J : Int), (J : Int))] p)).filter (lostP ⟨(sentL K).filter (fun p => !inR [((J : Int), (J : Int))] p), (K : Int) + 1, J, true⟩ t 1125899906842624), p.nu = i) ↔ (i + 3 ≤ J ∨ (i < J ∧ 5 ≤ t ∧ 1125899906842624 ≤ t - 5)) := by
  constructor
  · rintro ⟨p, hp, rfl⟩
    obtain ⟨hp1, hp2⟩ := List.mem_filter.1 hp
    obtain ⟨hp3, _⟩ := List.mem_filter.1 hp1
    obtain ⟨m, hm, rfl⟩ := List.mem_map.1 hp3
    unfold lostP at hp2
    simp at hp2
    simp only
    omega
  · intro h
    refine ⟨⟨i, 5, 9, true⟩, ?_, rfl⟩
    refine List.mem_filter.2 ⟨List.mem_filter.2 ⟨List.mem_map.2 ⟨(i - 1).toNat, by simp; omega, ?_⟩, ?_⟩, ?_⟩
    · congr 1; omega
    · unfold inR; simp; omega
    · unfold lostP; simp; omega
set_option maxRecDepth 100000 in
theorem three_walk (n a t : Int) (w : World) (hn : 0 ≤ n ∧ n < 256) (ha : 0 ≤ a ∧ a < 256) (ht : 0 ≤ t ∧ t < 18446744073709551616) :
    Calls Try.prog 5 #[.int .u8 n, .int .u8 a, .int .u64 t] w fun r w' => r = .returned (.bool true) ∧ Below w.heap.size w w' := by
  obtain ⟨K, hK⟩ : ∃ K : Nat, (K : Int) = 1 + n % 40 := ⟨(1 + n % 40).toNat, by omega⟩
  have hK40 : K ≤ 40 := by omega
  have hK0 : ¬ K = 0 := by omega
  have hwK : IntKind.u64.wrap (1 + n % 40) = (K : Int) := by rw [hK]; exact IntWalk.u64_in _ (by omega)
  have hmod := Int.emod_nonneg a (show (K : Int) ≠ 0 by omega)
  have hmod2 := Int.emod_lt_of_pos a (show (0 : Int) < K by omega)
  obtain ⟨J, hJ⟩ : ∃ J : Nat, (J : Int) = 1 + a % K := ⟨(1 + a % K).toNat, by omega⟩
  have hJ1 : 1 ≤ J := by omega
  have hJK : J ≤ K := by omega
  have hwJ : IntKind.u64.wrap (1 + a % (K : Int)) = (J : Int) := by rw [hJ]; exact IntWalk.u64_in _ (by omega)
  obtain ⟨eA, eL⟩ := three_ack K J hJ1 hJK (by omega)
  have HA := Lib.hid eA
  have HLK := Lib.hid eL
  clear hK hJ hmod hmod2 eA eL
  have hmm := @run_makeMap Try.prog
  go_enter Try.func5, Try.ntmps5
  go_wp2_with fail
  refine (awake9_any _).mono ?_
  rintro e w1 ⟨rfl, b1⟩
  have B1 := Lib.hid b1
  clear b1
  go_wp2_with fail
  refine (sent_any K _ (by omega)).mono ?_
  rintro e w2 ⟨g, A, c, rfl, h2, b2⟩
  have hz1 := B1.out.size
  have hz2 := b2.size
  obtain ⟨W, hW⟩ : ∃ W, W = w2.alloc (.cells #[.int .u64 (J : Int), .int .u64 (J : Int)] 63) := ⟨_, rfl⟩
  have bW : Below w2.heap.size w2 W := by rw [hW]; exact (Below.refl _ _).alloc (Nat.le_refl _) _
  have hr : RdG W (some ⟨w2.heap.size, 0, none⟩) [((J : Int), (J : Int))] := by rw [hW]; exact one_range w2 _ _
  have hWL := h2.below bW
  have HACK := Lib.hid (LAck_any w1.heap.size g A c (sentG K) (some ⟨w2.heap.size, 0, none⟩) 1 [((J : Int), (J : Int))] W hWL (sent_ok K (by omega)) hr (fun a ha _ => by injection ha with ha; rw [← ha]; have := h2.lt; simp; omega) (fun x hx => by simp at hx; subst hx; exact ⟨⟨by omega, by simp only; omega⟩, ⟨by omega, by simp only; omega⟩⟩) (by have := bW.size; omega) (by show (sentL K).length ≤ _; rw [sentL_length]; omega) (by simp))
  have BW := Lib.hid (B1.out.trans ((b2.mono hz1).trans (bW.mono (by omega))))
  have HWL := Lib.hid hWL
  have hzW := bW.size
  clear h2 b2 hr bW hWL B1
  go_wp2_with fail
  rw [← hW]
  clear hW
  refine HACK.out.mono ?_
  rintro e w3 ⟨A1, c1, rfl, _, ⟨⟨A2, c2, h3, s3⟩, f3⟩⟩
  have b3 := HWL.out.belowS f3 (by omega)
  rw [HLK.out] at h3
  have ok3 : LgOk (lAck (sentG K) [((J : Int), (J : Int))]) := lAck_ok (sent_ok K (by omega))
  rw [HLK.out] at ok3
  have e0 := HA.out
  rw [e0]
  have B3 := Lib.hid (BW.out.trans (b3.mono hz1))
  have H3 := Lib.hid h3
  have HO := Lib.hid ok3
  have hz3 := f3.size
  clear h3 ok3 f3 b3 s3 HACK BW HWL e0 HA HLK
  go_wp2_with fail
  obtain ⟨W4, hW4⟩ : ∃ W4, W4 = w3.alloc (.map #[] 0) := ⟨_, rfl⟩
  have bW4 : Below w3.heap.size w3 W4 := by rw [hW4]; exact (Below.refl _ _).alloc (Nat.le_refl _) _
  have M4 : MapS W4 w3.heap.size 0 [] := by rw [hW4]; exact MapS.made w3
  have L4 := H3.out.below bW4
  have hlen : ((sentL K).filter (fun p => !inR [((J : Int), (J : Int))] p)).length ≤ K := Nat.le_trans (List.length_filter_le _ _) (by rw [sentL_length]; exact Nat.le_refl _)
  obtain ⟨OUT, hOUT⟩ : ∃ OUT, OUT = ((sentL K).filter (fun p => !inR [((J : Int), (J : Int))] p)).filter (lostP ⟨(sentL K).filter (fun p => !inR [((J : Int), (J : Int))] p), (K : Int) + 1, J, true⟩ t 1125899906842624) := ⟨_, rfl⟩
  have hol : OUT.length ≤ K := by rw [hOUT]; exact Nat.le_trans (List.length_filter_le _ _) hlen
  have hmem := three_mem K J t
  rw [← hOUT] at hmem
  have hon : ∀ p ∈ OUT, 0 ≤ p.nu ∧ p.nu < 18446744073709551616 := fun p hp => by
    rw [hOUT] at hp
    have h1 := (HO.out.pk p (List.mem_filter.1 hp).1).1
    unfold PkOk at h1
    exact ⟨h1.1, by omega⟩
  have HLO := LLost_any w1.heap.size g A2 c2 ⟨(sentL K).filter (fun p => !inR [((J : Int), (J : Int))] p), (K : Int) + 1, J, true⟩ t 1125899906842624 W4 L4 HO.out ht (Nat.le_trans hlen (by omega))
  simp only at HLO
  rw [← hOUT] at HLO
  have HLOST := Lib.hid HLO
  have HM4 := Lib.hid (And.intro M4 (M4.ledS L4))
  have HL4 := Lib.hid L4
  have B4 := Lib.hid (B3.out.trans (bW4.mono (by omega)))
  have hz4 := bW4.size
  have HON := Lib.hid hon
  have HMEM := Lib.hid hmem
  clear HLO M4 L4 bW4 hmem hon hOUT hlen B3 H3 HO
  rw [← hW4]
  clear hW4
  go_wp2_with fail
  refine HLOST.out.mono ?_
  rintro e w5 ⟨A3, c3, rfl, h5⟩
  have M5 := HM4.out.1.frm h5.to.fr HM4.out.2
  have B5 := B4.out.trans ((HL4.out.belowS h5.to.fr (by omega)).mono hz1)
  have O5 := h5.own
  have hz5 := h5.to.fr.size
  clear h5 HLOST HM4 HL4 B4
  go_wp2_with fail
  go_loopw [45] (fun i wr => ∃ (k : Nat) (T : List Int), k ≤ OUT.length ∧ i = .int .i64 k ∧ MapS wr w3.heap.size k T ∧ (∀ x, x ∈ T ↔ ∃ p ∈ OUT.take k, p.nu = x) ∧ OwnP wr W4.heap.size A3 c3 OUT ∧ Below w.heap.size w wr) (fun i _ => OUT.length - (intOf i).toNat)
  case atStart => exact ⟨0, [], by omega, rfl, M5, fun x => by simp, O5, B5⟩
  case round =>
    obtain ⟨k, T, hk, rfl, hM, hT, hO, hB⟩ := hrel
    clear M5 B5 O5
    by_cases hlt : k < OUT.length
    · obtain ⟨p, hx⟩ : ∃ p, OUT[k]? = some p := ⟨_, List.getElem?_eq_getElem hlt⟩
      have hts := take_snoc hx
      obtain ⟨b, off, rfl, zb, hcell⟩ := hO.at0 hx
      have hpn := HON.out p (List.mem_of_getElem? hx)
      have x0 := hcell 0 (by omega)
      have x1 := hcell 1 (by omega)
      have x2 := hcell 2 (by omega)
      have x3 := hcell 3 (by omega)
      clear hcell
      obtain ⟨nu, se, si, aq⟩ := p
      simp [PkC] at x0 x1 x2 x3
      rw [← Nat.add_assoc] at x1 x2 x3
      simp only at hpn
      have hwf := wfU hpn.1 hpn.2
      have hT2 : ∀ x, x ∈ (T ++ if nu ∈ T then [] else [nu]) ↔ ∃ p ∈ OUT.take (k + 1), p.nu = x := fun x => by
        rw [hts]
        have h1 : (x ∈ T ++ if nu ∈ T then [] else [nu]) ↔ (x ∈ T ∨ x = nu) := by
          by_cases hm : nu ∈ T
          · rw [if_pos hm, List.append_nil]
            exact ⟨fun h => .inl h, fun h => h.elim id (fun e => e ▸ hm)⟩
          · rw [if_neg hm]; simp
        rw [h1, hT x]
        constructor
        · rintro (⟨p, h2, h3⟩ | h9)
          · exact ⟨p, List.mem_append_left _ h2, h3⟩
          · exact ⟨⟨nu, se, si, aq⟩, by simp, h9.symm⟩
        · rintro ⟨p, h2, h3⟩
          rcases List.mem_append.1 h2 with h4 | h4
          · exact .inl ⟨p, h4, h3⟩
          · simp at h4; subst h4; exact .inr h3.symm
      have HT := Lib.hid hT2
      have HM := Lib.hid hM
      have HO := Lib.hid hO
      have HB := Lib.hid hB
      clear hT hT2 hts hx hM hO hB
      go_wp2_with (at_mapUpdate; go_must (refine wpList_mapS rfl (.tmp 49) (.tmp 51) (.const (.bool true)) rfl w3.heap.size k T nu rfl rfl rfl hwf (HM.out.alloc _) (by unfold maxLen; omega) ?_); intro w9 m9 g9)
      go_roundw
      case rel =>
        refine ⟨k + 1, _, by omega, by go_num, m9, HT.out, ?_, (HB.out.alloc HB.out.size _).grown g9 (by have := HB.out.size; simp; omega) (fun r hr => by injection hr with hr; have := HB.out.size; omega)⟩
        exact OwnV.apart (OwnV.below HO.out ((Below.refl _ _).alloc (Nat.le_refl _) _)) g9 (HM.out.own HO.out)
      case measure => simp [intOf]; omega
    · have hd : decide (k < OUT.length) = false := by simpa using hlt
      have hk2 : OUT.take k = OUT := List.take_of_length_le (by omega)
      rw [hk2] at hT
      have HT := Lib.hid hT
      have HM := Lib.hid hM
      have HB := Lib.hid hB
      clear hT hM hB hO hk2
      go_wp2_with fail
      go_loopw [15] (fun i wr2 => ∃ k : Nat, 1 ≤ k ∧ k ≤ K + 1 ∧ i = .int .u64 k ∧ wr2 = wr) (fun i _ => K + 1 - (intOf i).toNat)
      case atStart => exact ⟨1, by omega, by omega, rfl, rfl⟩
      case round =>
        obtain ⟨j, hj1, hj2, rfl, rfl⟩ := hrel
        by_cases hjl : j ≤ K
        · have hjw : (Lit.int .u64 (j : Int)).wf = true := wfU (by omega) (by omega)
          have LK := HM.out.look hjw
          have hwj3 : IntKind.u64.wrap ((j : Int) + 3) = (j : Int) + 3 := IntWalk.u64_in _ (by omega)
          have hwj1 : IntKind.u64.wrap ((j : Int) + 1) = (j : Int) + 1 := IntWalk.u64_in _ (by omega)
          have hmem := (HT.out (j : Int)).trans (HMEM.out (j : Int) (by omega) (by omega))
          have hb0 : decide ((j : Int) ∈ T) = decide ((j : Int) + 3 ≤ J ∨ ((j : Int) < J ∧ 5 ≤ t ∧ 1125899906842624 ≤ t - 5)) := by
            rw [Bool.eq_iff_iff]; simp only [decide_eq_true_eq]; exact hmem
          have HBQ := Lib.hid hb0
          clear hmem hb0
          generalize decide ((j : Int) ∈ T) = Q at LK HBQ
          rcases (show (j : Int) + 3 ≤ J ∨ (¬ (j : Int) + 3 ≤ J ∧ (j : Int) < J ∧ 5 ≤ t ∧ 1125899906842624 ≤ t - 5) ∨ (¬ (j : Int) + 3 ≤ J ∧ (j : Int) < J ∧ 5 ≤ t ∧ ¬ 1125899906842624 ≤ t - 5) ∨ (¬ (j : Int) + 3 ≤ J ∧ (j : Int) < J ∧ ¬ 5 ≤ t) ∨ (¬ (j : Int) + 3 ≤ J ∧ ¬ (j : Int) < J) by omega) with h1 | ⟨h1, h2, h3, h4⟩ | ⟨h1, h2, h3, h4⟩ | ⟨h1, h2, h3⟩ | ⟨h1, h2⟩
          · have e1 : decide ((j : Int) + 3 ≤ J) = true := by simpa using h1
            have hQ : Q = true := by rw [HBQ.out]; simp; omega
            subst hQ
            go_wp2_with fail
            go_roundw
            case rel => exact ⟨j + 1, by omega, by omega, by go_num, trivial⟩
            case measure => simp [intOf]; omega
          · have e1 : decide ((j : Int) + 3 ≤ J) = false := by simpa using h1
            have e2 : decide ((j : Int) < J) = true := by simpa using h2
            have e3 : decide (5 ≤ t) = true := by simpa using h3
            have hws : IntKind.u64.wrap (t - 5) = t - 5 := IntWalk.u64_in _ (by omega)
            have e4 : decide (1125899906842624 ≤ t - 5) = true := by simpa using h4
            have hQ : Q = true := by rw [HBQ.out]; simp; omega
            subst hQ
            go_wp2_with fail
            go_roundw
            case rel => exact ⟨j + 1, by omega, by omega, by go_num, trivial⟩
            case measure => simp [intOf]; omega
          · have e1 : decide ((j : Int) + 3 ≤ J) = false := by simpa using h1
            have e2 : decide ((j : Int) < J) = true := by simpa using h2
            have e3 : decide (5 ≤ t) = true := by simpa using h3
            have hws : IntKind.u64.wrap (t - 5) = t - 5 := IntWalk.u64_in _ (by omega)
            have e4 : decide (1125899906842624 ≤ t - 5) = false := by simpa using h4
            have hQ : Q = false := by rw [HBQ.out]; simp; omega
            subst hQ
            go_wp2_with fail
            go_roundw
            case rel => exact ⟨j + 1, by omega, by omega, by go_num, trivial⟩
            case measure => simp [intOf]; omega
          · have e1 : decide ((j : Int) + 3 ≤ J) = false := by simpa using h1
            have e2 : decide ((j : Int) < J) = true := by simpa using h2
            have e3 : decide (5 ≤ t) = false := by simpa using h3
            have hQ : Q = false := by rw [HBQ.out]; simp; omega
            subst hQ
            go_wp2_with fail
            go_roundw
            case rel => exact ⟨j + 1, by omega, by omega, by go_num, trivial⟩
            case measure => simp [intOf]; omega
          · have e1 : decide ((j : Int) + 3 ≤ J) = false := by simpa using h1
            have e2 : decide ((j : Int) < J) = false := by simpa using h2
            have hQ : Q = false := by rw [HBQ.out]; simp; omega
            subst hQ
            go_wp2_with fail
            go_roundw
            case rel => exact ⟨j + 1, by omega, by omega, by go_num, trivial⟩
            case measure => simp [intOf]; omega
        · have hd2 : decide (j ≤ K) = false := by simpa using hjl
          go_wp2_with fail
          go_ret
          exact ⟨rfl, HB.out⟩
theorem three_walkF (n a t : Int) (w : World) (hn : (Lit.int .u8 n).wf = true) (ha : (Lit.int .u8 a).wf = true) (ht : (Lit.int .u64 t).wf = true) :
    Calls Try.prog 5 #[.int .u8 n, .int .u8 a, .int .u64 t] w fun r w' => r = .returned (.bool true) ∧ Below w.heap.size w w' :=
  three_walk n a t w (wf_u8 hn) (wf_u8 ha) (wf_u64 ht)
end Go.Proofs.Ytfalnaagfndgfaa
