/-
  HeadTwo.
-/
import Derived.Test.YtomapklkbfjafaaHeadO
namespace Go.Proofs.Ytomapklkbfjafaa
open Go.RowKit
set_option linter.unusedVariables false

def Two (wr : World) (base : Nat) (k : Nat) (p e : Value) : Prop :=
  ∃ (ps : List (List Int)) (A : Option Addr) (c : Nat) (B : Option Addr) (d : Nat), ps.length ≤ k ∧ ps.length ≤ 6 ∧ (∀ q ∈ ps, Pk q) ∧ p = .slice A ps.flatten.length c ∧ e = .slice B ps.length d ∧
    Own wr base A c ps.flatten ∧ OwnV wr base 3 1 B d ps.length (IV .i64 (endsOf ps))

theorem rd_at {w : World} {A : Option Addr} {l : List Int} (h : Rd w A l) {j : Nat} (hj : j < l.length) : ∃ b off x, A = some ⟨b, off, none⟩ ∧ b < w.heap.size ∧ l[j]? = some x ∧ w.cell? ⟨b, off + j, none⟩ = some (.int .u8 x) := by
  obtain ⟨b, off, rfl, hb⟩ := h.some_ (by omega)
  exact ⟨b, off, l[j], rfl, hb, List.getElem?_eq_getElem hj, h.cell (List.getElem?_eq_getElem hj)⟩
set_option maxRecDepth 100000 in
set_option maxHeartbeats 3200000 in
theorem two_walk (A0 : Option Addr) (c0 : Nat) (xs : List HT) (S0 : Option Addr) (s0 : Nat) (sz : List Int) (w : World)
    (hxs : RdHs w A0 xs) (hx1 : xs.length ≤ c0) (hx2 : c0 ≤ 9223372036854775807) (hx3 : A0 = none → c0 = 0)
    (hrs : Rd w S0 sz) (hsb : Bytes sz) (hs1 : sz.length ≤ s0) (hs2 : s0 ≤ 9223372036854775807) (hs3 : S0 = none → s0 = 0) :
    Calls Try.prog 6 #[.slice A0 xs.length c0, .slice S0 sz.length s0] w fun r w' => r = .returned (.bool true) ∧ Below w.heap.size w w' := by
  have AW := Lib.hid (fun W => awake4_any W)
  have HXS := Lib.hid hxs
  have HRS := Lib.hid hrs
  have HSB := Lib.hid hsb
  clear hxs hx3 hrs hsb hs3
  go_enter Try.func6, Try.ntmps6
  go_wp2_with fail
  refine (AW.out _).mono ?_
  rintro e w1 ⟨rfl, rfl⟩
  go_wp2_with fail
  go_loopw [5, 6, 23] (fun p e i wr => ∃ k : Nat, k ≤ xs.length ∧ i = .int .i64 k ∧ Two wr w.heap.size k p e ∧ Below w.heap.size w wr) (fun _ _ i _ => xs.length - (intOf i).toNat)
  case atStart => exact ⟨0, by omega, rfl, ⟨[], none, 0, none, 0, by simp, by simp, by simp, rfl, rfl, Own.nil _ _, OwnV.nil _ _ _ _⟩, Below.refl _ _⟩
  case round =>
    obtain ⟨k, hk, rfl, ⟨ps, A, c, B, d, hpk, hp6, hps, rfl, rfl, hop, hoe⟩, hbel⟩ := hrel
    obtain ⟨P, hP⟩ : ∃ P, P = ps.flatten := ⟨_, rfl⟩
    rw [← hP] at hop ⊢
    have HPP := Lib.hid hP
    have HP := Lib.hid hps
    have HOP := Lib.hid hop
    have HOE := Lib.hid hoe
    have HB := Lib.hid hbel
    have hPl : P.length ≤ 2400 := by rw [hP]; have := (flat_le hps).1; omega
    clear hps hop hoe hbel hP
    by_cases hkl : k < xs.length
    · obtain ⟨b0, off0, x, rfl, hb0, hxk, hok, q0, q1, q2, q3, q4⟩ := (HXS.out.below HB.out).at_ hkl
      have HOK := Lib.hid hok
      clear hok hxk
      go_wp2_with fail
      obtain ⟨lg, lv, ph, A1, c1, a1, B1, d1, b1⟩ := x
      simp only at q0 q1 q2 q3 q4
      have ba : Below wr.heap.size wr (wr.alloc (.cells #[.bool lg, .int .i64 lv, .bool ph, .slice A1 a1.length c1, .slice B1 b1.length d1] 27)) := (Below.refl _ _).alloc (Nat.le_refl _) _
      have CF := Few_any lg lv ph A1 a1 c1 B1 b1 d1 _ (HOK.out.1.below ba) (HOK.out.2.2.1.below ba)
      obtain ⟨a2, ha2⟩ : ∃ x, x = a1.take 30 := ⟨_, rfl⟩
      obtain ⟨b2, hb2⟩ : ∃ x, x = b1.take 30 := ⟨_, rfl⟩
      rw [← ha2, ← hb2] at CF
      have HAB := Lib.hid (show Bytes a2 by rw [ha2]; exact HOK.out.2.1.take _)
      have HBB := Lib.hid (show Bytes b2 by rw [hb2]; exact HOK.out.2.2.2.take _)
      unfold HV at CF
      have CF' := Lib.hid CF
      clear CF ha2 hb2 q0 q1 q2 q3 q4
      go_wp2_with fail
      refine CF'.out.mono ?_
      rintro e w2 ⟨A2, c2, B2, d2, rfl, o2, o2', b2x⟩
      have kb := (Blk.new wr 27 #[.bool lg, .int .i64 lv, .bool ph, .slice A1 a1.length c1, .slice B1 b1.length d1]).below b2x (by simp)
      have f0 := kb.frozen 0
      have f1 := kb.frozen 1
      have f2 := kb.frozen 2
      have f3 := kb.frozen 3
      have f4 := kb.frozen 4
      have q0 := kb.cell 0
      have q1 := kb.cell 1
      have q2 := kb.cell 2
      have q3 := kb.cell 3
      have q4 := kb.cell 4
      have bw2 := ba.trans (b2x.mono ba.size)
      have HR2 := Lib.hid (show ∀ w', Below wr.heap.size w2 w' → Below wr.heap.size wr w' from fun w' hb => bw2.trans hb)
      have BL2 := Lib.hid bw2
      have KB := Lib.hid kb
      have O2 := Lib.hid (o2.base_le ba.size)
      have O2' := Lib.hid (o2'.base_le ba.size)
      clear kb o2 o2' b2x ba CF' bw2
      have K3 := Lib.hid (set5_blk KB.out (.bool lg) (.int .i64 lv) (.bool ph) (.slice A2 a2.length c2) (.slice B2 b2.length d2))
      have B3 := Lib.hid (below_set5 BL2.out (Nat.le_refl _) (.bool lg) (.int .i64 lv) (.bool ph) (.slice A2 a2.length c2) (.slice B2 b2.length d2))
      have SA := Lib.hid (Sl.of_own (set5_own O2.out KB.out (by decide) (.bool lg) (.int .i64 lv) (.bool ph) (.slice A2 a2.length c2) (.slice B2 b2.length d2)))
      have SB := Lib.hid (Sl.of_own (set5_own O2'.out KB.out (by decide) (.bool lg) (.int .i64 lv) (.bool ph) (.slice A2 a2.length c2) (.slice B2 b2.length d2)))
      have HHS := Lib.hid (HB.out.size)
      by_cases h6 : 6 ≤ (k : Int)
      · go_wp2_with fail
        go_roundw
        case rel =>
          show ∃ k' : Nat, _ ∧ _ ∧ Two (set5 w2 wr.heap.size (.bool lg) (.int .i64 lv) (.bool ph) (.slice A2 a2.length c2) (.slice B2 b2.length d2)) _ _ _ _ ∧ Below _ _ (set5 w2 wr.heap.size (.bool lg) (.int .i64 lv) (.bool ph) (.slice A2 a2.length c2) (.slice B2 b2.length d2))
          refine ⟨k + 1, by omega, by go_num, ⟨ps, A, c, B, d, by omega, hp6, HP.out, by rw [← HPP.out], rfl, ?_, ?_⟩, HB.out.trans (B3.out.mono HHS.out)⟩
          · rw [← HPP.out]; exact HOP.out.below B3.out
          · exact HOE.out.below B3.out
        case measure => simp [intOf]; omega
      · cases lg
        · go_wp2_with fail
          go_roundw
          case rel =>
            show ∃ k' : Nat, _ ∧ _ ∧ Two (set5 w2 wr.heap.size (.bool false) (.int .i64 lv) (.bool ph) (.slice A2 a2.length c2) (.slice B2 b2.length d2)) _ _ _ _ ∧ Below _ _ (set5 w2 wr.heap.size (.bool false) (.int .i64 lv) (.bool ph) (.slice A2 a2.length c2) (.slice B2 b2.length d2))
            refine ⟨k + 1, by omega, by go_num, ⟨ps, A, c, B, d, by omega, hp6, HP.out, by rw [← HPP.out], rfl, ?_, ?_⟩, HB.out.trans (B3.out.mono HHS.out)⟩
            · rw [← HPP.out]; exact HOP.out.below B3.out
            · exact HOE.out.below B3.out
          case measure => simp [intOf]; omega
        · have e6 : decide (6 ≤ (k : Int)) = false := by simpa using h6
          have hnn : (k < sz.length ∧ ∃ (g off : Nat) (y : Int), S0 = some ⟨g, off, none⟩ ∧ g < w.heap.size ∧ 0 ≤ y ∧ y < 256 ∧ w.cell? ⟨g, off + k, none⟩ = some (.int .u8 y)) ∨ ¬ k < sz.length := by
            by_cases hks : k < sz.length
            · left
              obtain ⟨g, off, y, e1, e2, e3, e4⟩ := rd_at HRS.out hks
              exact ⟨hks, g, off, y, e1, e2, (HSB.out.at e3).1, (HSB.out.at e3).2, e4⟩
            · exact .inr hks
          rcases hnn with ⟨hks, g, off, y, rfl, hgl, y0, y1, hcy⟩ | hks
          · have hgne : ¬ g = wr.heap.size := by have := HHS.out; omega
            have hc2 : w2.cell? ⟨g, off + k, none⟩ = some (.int .u8 y) := by
              rw [← hcy]
              exact (HB.out.trans (BL2.out.mono HHS.out)).cell (p := ⟨g, off + k, none⟩) hgl
            clear hcy
            obtain ⟨nn, hn⟩ : ∃ nn : Nat, (nn : Int) = 16 + y := ⟨(16 + y).toNat, by omega⟩
            obtain ⟨L, hL⟩ : ∃ L : Int, L = 16 + y := ⟨_, rfl⟩
            have hLn : L = (nn : Int) := by omega
            have hn16 : 16 ≤ nn ∧ nn ≤ 300 := by omega
            have HL := Lib.hid hL
            clear hn hL
            have HLN := Lib.hid hLn
            clear hLn
            go_wp2_with fail
            rw [← HL.out]
            show Calls _ _ _ (set5 w2 wr.heap.size (.bool true) (.int .i64 lv) (.bool ph) (.slice A2 a2.length c2) (.slice B2 b2.length d2)) _
            generalize set5 w2 wr.heap.size (.bool true) (.int .i64 lv) (.bool ph) (.slice A2 a2.length c2) (.slice B2 b2.length d2) = w3 at K3 B3 SA SB ⊢
            have hBW := HB.out.trans (B3.out.mono HHS.out)
            have HBW := Lib.hid hBW
            have HO3 := Lib.hid (HOP.out.below B3.out)
            have HE3 := Lib.hid (HOE.out.below B3.out)
            clear hBW f0 f1 f2 f3 f4 q0 q1 q2 q3 q4 KB BL2 O2 O2' HOP HOE HB HR2
            cases hr : rightB true lv ph a2 b2
            · have CB := refBytes_bad true lv ph A2 a2 c2 B2 b2 d2 7 L w3 (by have := HLN.out; omega) hr
              unfold HV at CB
              have CB' := Lib.hid CB
              clear CB hr
              refine CB'.out.mono ?_
              rintro e w4 ⟨rfl, b4⟩
              have B4 := Lib.hid b4
              clear b4
              go_wp2_with fail
              go_roundw
              case rel =>
                refine ⟨k + 1, by omega, by go_num, ⟨ps, A, c, B, d, by omega, hp6, HP.out, by rw [← HPP.out], rfl, ?_, ?_⟩, HBW.out.trans (B4.out.mono HBW.out.size)⟩
                · rw [← HPP.out]; exact HO3.out.below B4.out
                · exact HE3.out.below B4.out
              case measure => simp [intOf]; omega
            · have hrr : ph = false ∧ (lv = 0 ∨ lv = 1) ∧ a2.length ≤ 20 ∧ b2.length ≤ 20 := by
                unfold rightB at hr
                simp at hr
                exact ⟨hr.2, by omega, by omega, by omega⟩
              obtain ⟨hph, hlv, hal, hbl⟩ := hrr
              subst hph
              have CB := refBytes_long lv A2 a2 c2 B2 b2 d2 7 L w3 (by have := HLN.out; omega) (by omega) SA.out SB.out hr
              unfold HV at CB
              obtain ⟨O, hO⟩ : ∃ O, O = longB lv a2 b2 7 L := ⟨_, rfl⟩
              rw [← hO] at CB
              have CB' := Lib.hid CB
              have HPK := Lib.hid (show Pk (O ++ List.replicate nn 0) by rw [hO, HLN.out]; exact Pk.of_long lv a2 b2 nn hlv hal hbl HAB.out HBB.out hn16)
              have hOl : O.length ≤ 100 := by rw [hO]; have := (longB_length lv a2 b2 7 L).1; omega
              obtain ⟨X1, hX1⟩ : ∃ X, X = P ++ O := ⟨_, rfl⟩
              obtain ⟨X2, hX2⟩ : ∃ X, X = X1 ++ List.replicate nn 0 := ⟨_, rfl⟩
              have hX1l : X1.length ≤ 3000 := by rw [hX1, List.length_append]; omega
              have hX2l : X2.length ≤ 4000 := by rw [hX2, List.length_append, List.length_replicate]; omega
              have HX1 := Lib.hid hX1
              have HX2 := Lib.hid hX2
              clear CB hr hlv hal hbl hO hX1 hX2
              refine CB'.out.mono ?_
              rintro e w4 ⟨A4, c4, rfl, o4, b4⟩
              have B4 := Lib.hid b4
              have HBZ := Lib.hid (HBW.out.trans (b4.mono HBW.out.size))
              have HO4 := Lib.hid (HO3.out.below b4)
              have HE4 := Lib.hid (HE3.out.below b4)
              have O4 := Lib.hid o4
              clear b4 o4
              go_wp2_with (first
                | (at_builtin; refine wpList_appX rfl (.tmp 56) (.tmp 57) rfl w.heap.size (l := P) (news := O) X1 HX1.out rfl rfl HO4.out (Rd.of_own O4.out) (by omega) HBZ.out.size ?_; intro A5 c5 w5 o5 g5 b5; have O5 := Lib.hid o5; have HE5 := Lib.hid (HE4.out.grown g5 (OwnV.other (e := 5) HO4.out (by decide))); have B5 := Lib.hid (HBZ.out.trans b5); clear o5 g5 b5)
                | (at_builtin; refine wpList_appN rfl (.tmp 58) (.tmp 59) rfl w.heap.size (l := X1) nn X2 HX2.out (by omega) L HLN.out rfl rfl O5.out (by omega) B5.out.size ?_; intro A6 c6 w6 o6 g6 b6; have O6 := Lib.hid o6; have HE6 := Lib.hid (HE5.out.grown g6 (OwnV.other (e := 5) O5.out (by decide))); have B6 := Lib.hid (B5.out.trans b6); clear o6 g6 b6)
                | (at_builtin; go_must (refine wpList_appV rfl (.tmp 61) (.tmp 64) 48 3 1 8 _ rfl Try.underlying48 info_int rfl (by omega) w.heap.size (n := ps.length) (m := 1) (d := 1) (news := [.int .i64 (X2.length : Int)]) rfl rfl (HE6.out.below ((Below.refl _ _).alloc (Nat.le_refl _) _)) (reads_one (Blk.new _ _ _)) (by intro u hu; simp at hu; subst hu; rfl) (by simp only [maxLen]; omega) (by omega) (by have := B6.out.size; simp; omega) ?_); intro A7 c7 w7 o7 g7 b7))
              go_roundw
              case rel =>
                have hfl : (ps ++ [O ++ List.replicate nn 0]).flatten = X2 := by
                  rw [HX2.out, HX1.out, HPP.out, List.flatten_append]; simp
                have hz6 := B6.out.size
                refine ⟨k + 1, by omega, by go_num, ⟨ps ++ [O ++ List.replicate nn 0], A6, c6, A7, c7, by simp; omega, by simp; omega, ?_, by rw [hfl], by rw [List.length_append]; rfl, ?_, ?_⟩, ?_⟩
                · intro q hq
                  rcases List.mem_append.1 hq with hq | hq
                  · exact HP.out q hq
                  · simp only [List.mem_singleton] at hq; rw [hq]; exact HPK.out
                · rw [hfl]
                  exact (O6.out.below ((Below.refl _ _).alloc (Nat.le_refl _) _)).grown g7 (OwnV.other (HE6.out.below ((Below.refl _ _).alloc (Nat.le_refl _) _)) (by decide))
                · rw [endsOf_snoc, hfl, IV_append, List.length_append]
                  exact o7
                · exact B6.out.trans (((Below.refl _ _).alloc hz6 _).trans b7)
              case measure => simp [intOf]; omega
          · obtain ⟨nn, hn⟩ : ∃ nn : Nat, (nn : Int) = 16 := ⟨16, rfl⟩
            obtain ⟨L, hL⟩ : ∃ L : Int, L = 16 := ⟨_, rfl⟩
            have hLn : L = (nn : Int) := by omega
            have hn16 : 16 ≤ nn ∧ nn ≤ 300 := by omega
            have HL := Lib.hid hL
            clear hn hL
            have HLN := Lib.hid hLn
            clear hLn
            go_wp2_with fail
            rw [← HL.out]
            show Calls _ _ _ (set5 w2 wr.heap.size (.bool true) (.int .i64 lv) (.bool ph) (.slice A2 a2.length c2) (.slice B2 b2.length d2)) _
            generalize set5 w2 wr.heap.size (.bool true) (.int .i64 lv) (.bool ph) (.slice A2 a2.length c2) (.slice B2 b2.length d2) = w3 at K3 B3 SA SB ⊢
            have hBW := HB.out.trans (B3.out.mono HHS.out)
            have HBW := Lib.hid hBW
            have HO3 := Lib.hid (HOP.out.below B3.out)
            have HE3 := Lib.hid (HOE.out.below B3.out)
            clear hBW f0 f1 f2 f3 f4 q0 q1 q2 q3 q4 KB BL2 O2 O2' HOP HOE HB HR2
            cases hr : rightB true lv ph a2 b2
            · have CB := refBytes_bad true lv ph A2 a2 c2 B2 b2 d2 7 L w3 (by have := HLN.out; omega) hr
              unfold HV at CB
              have CB' := Lib.hid CB
              clear CB hr
              refine CB'.out.mono ?_
              rintro e w4 ⟨rfl, b4⟩
              have B4 := Lib.hid b4
              clear b4
              go_wp2_with fail
              go_roundw
              case rel =>
                refine ⟨k + 1, by omega, by go_num, ⟨ps, A, c, B, d, by omega, hp6, HP.out, by rw [← HPP.out], rfl, ?_, ?_⟩, HBW.out.trans (B4.out.mono HBW.out.size)⟩
                · rw [← HPP.out]; exact HO3.out.below B4.out
                · exact HE3.out.below B4.out
              case measure => simp [intOf]; omega
            · have hrr : ph = false ∧ (lv = 0 ∨ lv = 1) ∧ a2.length ≤ 20 ∧ b2.length ≤ 20 := by
                unfold rightB at hr
                simp at hr
                exact ⟨hr.2, by omega, by omega, by omega⟩
              obtain ⟨hph, hlv, hal, hbl⟩ := hrr
              subst hph
              have CB := refBytes_long lv A2 a2 c2 B2 b2 d2 7 L w3 (by have := HLN.out; omega) (by omega) SA.out SB.out hr
              unfold HV at CB
              obtain ⟨O, hO⟩ : ∃ O, O = longB lv a2 b2 7 L := ⟨_, rfl⟩
              rw [← hO] at CB
              have CB' := Lib.hid CB
              have HPK := Lib.hid (show Pk (O ++ List.replicate nn 0) by rw [hO, HLN.out]; exact Pk.of_long lv a2 b2 nn hlv hal hbl HAB.out HBB.out hn16)
              have hOl : O.length ≤ 100 := by rw [hO]; have := (longB_length lv a2 b2 7 L).1; omega
              obtain ⟨X1, hX1⟩ : ∃ X, X = P ++ O := ⟨_, rfl⟩
              obtain ⟨X2, hX2⟩ : ∃ X, X = X1 ++ List.replicate nn 0 := ⟨_, rfl⟩
              have hX1l : X1.length ≤ 3000 := by rw [hX1, List.length_append]; omega
              have hX2l : X2.length ≤ 4000 := by rw [hX2, List.length_append, List.length_replicate]; omega
              have HX1 := Lib.hid hX1
              have HX2 := Lib.hid hX2
              clear CB hr hlv hal hbl hO hX1 hX2
              refine CB'.out.mono ?_
              rintro e w4 ⟨A4, c4, rfl, o4, b4⟩
              have B4 := Lib.hid b4
              have HBZ := Lib.hid (HBW.out.trans (b4.mono HBW.out.size))
              have HO4 := Lib.hid (HO3.out.below b4)
              have HE4 := Lib.hid (HE3.out.below b4)
              have O4 := Lib.hid o4
              clear b4 o4
              go_wp2_with (first
                | (at_builtin; refine wpList_appX rfl (.tmp 56) (.tmp 57) rfl w.heap.size (l := P) (news := O) X1 HX1.out rfl rfl HO4.out (Rd.of_own O4.out) (by omega) HBZ.out.size ?_; intro A5 c5 w5 o5 g5 b5; have O5 := Lib.hid o5; have HE5 := Lib.hid (HE4.out.grown g5 (OwnV.other (e := 5) HO4.out (by decide))); have B5 := Lib.hid (HBZ.out.trans b5); clear o5 g5 b5)
                | (at_builtin; refine wpList_appN rfl (.tmp 58) (.tmp 59) rfl w.heap.size (l := X1) nn X2 HX2.out (by omega) L HLN.out rfl rfl O5.out (by omega) B5.out.size ?_; intro A6 c6 w6 o6 g6 b6; have O6 := Lib.hid o6; have HE6 := Lib.hid (HE5.out.grown g6 (OwnV.other (e := 5) O5.out (by decide))); have B6 := Lib.hid (B5.out.trans b6); clear o6 g6 b6)
                | (at_builtin; go_must (refine wpList_appV rfl (.tmp 61) (.tmp 64) 48 3 1 8 _ rfl Try.underlying48 info_int rfl (by omega) w.heap.size (n := ps.length) (m := 1) (d := 1) (news := [.int .i64 (X2.length : Int)]) rfl rfl (HE6.out.below ((Below.refl _ _).alloc (Nat.le_refl _) _)) (reads_one (Blk.new _ _ _)) (by intro u hu; simp at hu; subst hu; rfl) (by simp only [maxLen]; omega) (by omega) (by have := B6.out.size; simp; omega) ?_); intro A7 c7 w7 o7 g7 b7))
              go_roundw
              case rel =>
                have hfl : (ps ++ [O ++ List.replicate nn 0]).flatten = X2 := by
                  rw [HX2.out, HX1.out, HPP.out, List.flatten_append]; simp
                have hz6 := B6.out.size
                refine ⟨k + 1, by omega, by go_num, ⟨ps ++ [O ++ List.replicate nn 0], A6, c6, A7, c7, by simp; omega, by simp; omega, ?_, by rw [hfl], by rw [List.length_append]; rfl, ?_, ?_⟩, ?_⟩
                · intro q hq
                  rcases List.mem_append.1 hq with hq | hq
                  · exact HP.out q hq
                  · simp only [List.mem_singleton] at hq; rw [hq]; exact HPK.out
                · rw [hfl]
                  exact (O6.out.below ((Below.refl _ _).alloc (Nat.le_refl _) _)).grown g7 (OwnV.other (HE6.out.below ((Below.refl _ _).alloc (Nat.le_refl _) _)) (by decide))
                · rw [endsOf_snoc, hfl, IV_append, List.length_append]
                  exact o7
                · exact B6.out.trans (((Below.refl _ _).alloc hz6 _).trans b7)
              case measure => simp [intOf]; omega
    · obtain rfl : k = xs.length := by omega
      rename World => wa
      clear HXS HRS HSB AW hpk
      go_wp2_with fail
      go_loopw [12, 69] (fun f i wr => ∃ (j n : Nat), j ≤ ps.length ∧ i = .int .i64 j ∧ n = (ps.take j).flatten.length ∧ f = .int .i64 n ∧ Below wa.heap.size wa wr) (fun _ i _ => ps.length - (intOf i).toNat)
      case atStart => exact ⟨0, 0, by omega, rfl, by simp, rfl, Below.refl _ _⟩
      case round =>
        obtain ⟨j, n, hj, rfl, hn, rfl, bel⟩ := hrel
        by_cases hjl : j < ps.length
        · obtain ⟨g, u, rfl, hgb, hu, hcu⟩ := HOE.out.at_ hjl
          simp only [IV, List.getElem?_map, endsOf_at hjl, Option.map_some, Option.some.injEq] at hu
          subst hu
          have hpk := HP.out _ (List.getElem_mem hjl)
          obtain ⟨Q, hQ⟩ : ∃ Q, Q = ps[j] := ⟨_, rfl⟩
          rw [← hQ] at hpk
          have hnx := flat_take hjl
          have hlt := flat_lt hjl (by rw [← hQ]; exact hpk.pos)
          have hdr := flat_drop hjl
          rw [← hn, ← hQ] at hnx
          rw [← hn, ← hQ, ← HPP.out] at hdr
          rw [← hn, ← HPP.out] at hlt
          obtain ⟨m, hm⟩ : ∃ m, m = (ps.take (j + 1)).flatten.length := ⟨_, rfl⟩
          rw [← hm] at hnx hcu
          obtain ⟨R, hR⟩ : ∃ R, R = P.drop n := ⟨_, rfl⟩
          rw [← hR] at hdr
          have hPB : Bytes P := by rw [HPP.out]; exact (flat_le HP.out).2
          have hRB : Bytes R := by rw [hR]; exact hPB.drop _
          have hRl : R.length = P.length - n := by rw [hR, List.length_drop]
          obtain ⟨e1, e2⟩ := hpk.read (ps.drop (j + 1)).flatten
          rw [← hdr] at e1 e2
          have hSl := (Sl.of_own HOP.out).below bel
          have hle := hSl.le
          have s1 := slice_from_is A c P.length n .i64 (n : Int) rfl (by omega) hle
          have hSR : SlB wr wr.heap.size A c P := ⟨hSl.rd, hSl.le, hSl.max, hSl.nil⟩
          have hS2 := hSR.from_ (k := n) (by omega)
          rw [← hR] at hS2
          obtain ⟨A3, hA3⟩ : ∃ A3, A3 = (if c = n then A else A.map (·.add (n * 1))) := ⟨_, rfl⟩
          rw [← hA3] at s1 hS2
          have CR := Read_yes A3 (c - n) R wr ⟨hS2.rd, hS2.le, hS2.max, hS2.nil⟩ hRB (by omega) e1
          rw [hRl] at CR
          have hcell : wr.cell? ⟨g, j, none⟩ = some (.int .i64 (m : Int)) := (bel.cell (p := ⟨g, j, none⟩) hgb).trans hcu
          obtain ⟨t, ht⟩ : ∃ t, t = rdAt R := ⟨_, rfl⟩
          obtain ⟨v, hv⟩ : ∃ v, v = hdV R 0 := ⟨_, rfl⟩
          rw [← ht, ← hv] at CR e2
          have CR' := Lib.hid CR
          have h1 : (n : Int) + (t + v) = (m : Int) := by omega
          have HN := Lib.hid hm
          have BEL := Lib.hid bel
          have hQl := hpk.le
          have htv : t + v ≤ 400 ∧ 0 ≤ t + v := by omega
          have H1 := Lib.hid h1
          have hPm : P.length ≤ 2400 := hPl
          have hnm : (n : Int) ≤ 2400 := by omega
          have hw : IntKind.i64.wrap ((n : Int) + (t + v)) = (n : Int) + (t + v) := by rw [IntKind.wrap_i64]; omega
          have hne : ((n : Int) + (t + v) != (m : Int)) = false := by rw [h1]; simp
          clear CR e1 e2 hSl hSR hS2 hdr hn hR hA3 hQ hcu hpk hm hnx ht hv hRl bel h1
          go_wp2_with fail
          refine CR'.out.mono ?_
          rintro e w6 ⟨A7, c7, A8, c8, rfl, o7, o8, b6⟩
          have B6 := Lib.hid (BEL.out.trans (b6.mono BEL.out.size))
          clear o7 o8 b6 CR'
          go_wp2_with fail
          go_roundw
          case rel => exact ⟨j + 1, m, by omega, by go_num, HN.out, rfl, B6.out.alloc B6.out.size _⟩
          case measure => simp [intOf]; omega
        · obtain rfl : j = ps.length := by omega
          go_wp2_with fail
          go_ret
          exact ⟨rfl, HB.out.trans (bel.mono HB.out.size)⟩
end Go.Proofs.Ytomapklkbfjafaa
