import Derived.Test.YtfpgnaeiiponmaaDoorShaP
namespace Go.Proofs.YtfpgnaeiiponmaaDoor
open Go.RowKit
set_option linter.unusedVariables false

theorem same_yes (A B : Option Addr) (c d : Nat) (a b : List Int) (w : World) (ha : Rd w A a) (hb : Rd w B b) (h1 : Bytes a) (h : a = b) :
    Calls Tryd.prog 14 #[.slice A a.length c, .slice B b.length d] w fun e w' => e = .returned (.bool true) ∧ w = w' := by
  refine (same_any A B c d a b w ha hb h1 (h ▸ h1)).mono ?_
  rintro e w' ⟨rfl, rfl⟩
  exact ⟨by simp [sameB, h], rfl⟩

set_option maxRecDepth 100000 in
set_option maxHeartbeats 3200000 in
theorem begins_walk (A : Option Addr) (c : Nat) (k0 : List Int) (A2 : Option Addr) (c2 : Nat) (i0 : List Int) (n m : Int) (w : World) (hT : STab w ∧ KTab w)
    (hr : Rd w A k0) (hb : Bytes k0) (hc : k0.length ≤ c) (hm : c ≤ 9223372036854775807) (hn : A = none → c = 0)
    (hr2 : Rd w A2 i0) (hb2 : Bytes i0) (hc2 : i0.length ≤ c2) (hm2 : c2 ≤ 9223372036854775807) (hn2 : A2 = none → c2 = 0) (wn : (Lit.int .u8 n).wf = true) (wm : (Lit.int .u8 m).wf = true) :
    Calls Tryd.prog 6 #[.slice A k0.length c, .slice A2 i0.length c2, .int .u8 n, .int .u8 m] w fun e w' => e = .returned (.bool true) ∧ Below w.heap.size w w' := by
  obtain ⟨hS, hK⟩ := hT
  obtain ⟨hn0, hn1⟩ := wf_u8 wn
  obtain ⟨hm0, hm1⟩ := wf_u8 wm
  obtain ⟨n, rfl⟩ := Int.eq_ofNat_of_zero_le hn0
  obtain ⟨m, rfl⟩ := Int.eq_ofNat_of_zero_le hm0
  clear wn wm
  obtain ⟨K, hKd⟩ : ∃ K, K = k0.take (60 : Int).toNat := ⟨_, rfl⟩
  obtain ⟨I, hId⟩ : ∃ I, I = i0.take (60 : Int).toNat := ⟨_, rfl⟩
  have hkl : K.length ≤ 60 := by rw [hKd]; simp; omega
  have hil : I.length ≤ 60 := by rw [hId]; simp; omega
  have hkb : Bytes K := by rw [hKd]; exact hb.take _
  have hib : Bytes I := by rw [hId]; exact hb2.take _
  have C1 := Lib.hid (fun W (bW : Below w.heap.size w W) => cut_any A c k0 60 W (hr.below bW) (by omega) hc (by decide) (by decide))
  have C2 := Lib.hid (fun W (bW : Below w.heap.size w W) => cut_any A2 c2 i0 60 W (hr2.below bW) (by omega) hc2 (by decide) (by decide))
  rw [← hKd] at C1
  rw [← hId] at C2
  obtain ⟨a, hA⟩ : ∃ a, a = min n m := ⟨_, rfl⟩
  obtain ⟨b, hB⟩ : ∃ b, b = max n m := ⟨_, rfl⟩
  obtain ⟨E1, hE1⟩ : ∃ E1, E1 = hkdf K I a := ⟨_, rfl⟩
  obtain ⟨E2, hE2⟩ : ∃ E2, E2 = hkdf K I b := ⟨_, rfl⟩
  have hl1 : E1.length = a := by rw [hE1]; exact hkdf_length _ _ _
  have hl2 : E2.length = b := by rw [hE2]; exact hkdf_length _ _ _
  have hb1 : Bytes E1 := by rw [hE1]; exact hkdf_bytes _ _ _
  have hb2' : Bytes E2 := by rw [hE2]; exact hkdf_bytes _ _ _
  have htk : E2.take a = E1 := by rw [hE1, hE2]; exact hkdf_take _ _ _ _ (by omega)
  have hsame : sameB E1 E2 = decide (n = m) := by
    unfold sameB
    by_cases h : n = m
    · rw [decide_eq_true h, decide_eq_true (by rw [hE1, hE2, hA, hB, h]; simp)]
    · rw [decide_eq_false h, decide_eq_false (fun e => by have := congrArg List.length e; omega)]
  have CE : ∀ (t : Nat) (E : List Int), E = hkdf K I t → t ≤ 255 → ∀ (W : World) (A1 A3 : Option Addr) (c1 c3 : Nat), Sl W A1 c1 K → Sl W A3 c3 I → Below w.heap.size w W →
      Calls Tryd.prog 18 #[.slice A1 K.length c1, .slice A3 I.length c3, .int .i64 t] W fun r w' => ∃ A' c', r = .returned (.tuple #[.slice A' t c', .int .i64 0]) ∧ Own w' W.heap.size A' c' E ∧ Below W.heap.size W w' := by
    intro t E hE ht W A1 A3 c1 c3 h1 h3 hW
    rw [hE]
    exact Expand_any A1 c1 K A3 c3 I t W h1 hkb h3 hib (by omega) (hS.below hW) (hK.below hW) (by omega) (by omega)
  have D1 := Lib.hid (CE a E1 hE1 (by omega))
  have D2 := Lib.hid (CE b E2 hE2 (by omega))
  have HS := Lib.hid hS
  have HK := Lib.hid hK
  have HL1 := Lib.hid hl1
  have HL2 := Lib.hid hl2
  have HB1 := Lib.hid hb1
  have HB2 := Lib.hid hb2'
  have HTK := Lib.hid htk
  have HSAME := Lib.hid hsame
  have hab : a ≤ b := by omega
  have ha2 : a ≤ 255 := by omega
  have hb5 : b ≤ 255 := by omega
  have hcase : ((n : Int) ≤ m ∧ ((n : Int) == (m : Int)) = false ∧ decide (n = m) = false ∧ a = n ∧ b = m ∧ n < m) ∨ (decide (n = m) = true ∧ a = n ∧ b = n ∧ m = n) ∨ (¬ (n : Int) ≤ m ∧ ((n : Int) == (m : Int)) = false ∧ decide (n = m) = false ∧ a = m ∧ b = n ∧ m < n) := by
    rcases Nat.lt_trichotomy n m with h | h | h
    · exact .inl ⟨by omega, by rw [beq_eq_false_iff_ne]; omega, decide_eq_false (by omega), by omega, by omega, h⟩
    · exact .inr (.inl ⟨decide_eq_true h, by omega, by omega, h.symm⟩)
    · exact .inr (.inr ⟨by omega, by rw [beq_eq_false_iff_ne]; omega, decide_eq_false (by omega), by omega, by omega, h⟩)
  clear CE hKd hId hE1 hE2 hl1 hl2 hb1 hb2' htk hsame hS hK hr hr2 hb hb2 hn hn2 hkb hib hA hB
  go_enter Tryd.func6, Tryd.ntmps6
  go_wp2_with fail
  refine (awake_any w HS.out HK.out).mono ?_
  rintro e w1 ⟨rfl, b1⟩
  have B1 := Lib.hid b1
  clear b1
  go_wp2_with fail
  refine (C1.out w1 B1.out).mono ?_
  rintro e w2 ⟨A3, c3, rfl, o2, b2⟩
  have S2 := Lib.hid (Sl.of_own o2)
  have B2 := Lib.hid (B1.out.trans (b2.mono B1.out.size))
  clear o2 b2 C1
  go_wp2_with fail
  refine (C2.out w2 B2.out).mono ?_
  rintro e w3 ⟨A4, c4, rfl, o3, b3⟩
  have S3 := Lib.hid (Sl.of_own o3)
  have S2' := Lib.hid (S2.out.below b3)
  have B3 := Lib.hid (B2.out.trans (b3.mono B2.out.size))
  clear o3 b3 C2
  rcases hcase with ⟨h1, h2, h3, rfl, rfl, h6⟩ | ⟨h3, rfl, rfl, rfl⟩ | ⟨h1, h2, h3, rfl, rfl, h6⟩
  all_goals
    have H3 := Lib.hid h3
    clear h3
    go_wp2_with fail
    refine (D1.out w3 A3 A4 c3 c4 S2'.out S3.out B3.out).mono ?_
    rintro e w4 ⟨A5, c5, rfl, o4, b4⟩
    have O4 := Lib.hid (Sl.of_own o4)
    have B4 := Lib.hid (B3.out.trans (b4.mono B3.out.size))
    have S4 := Lib.hid (S2'.out.below b4)
    have S5 := Lib.hid (S3.out.below b4)
    clear o4 b4
    go_wp2_with fail
    refine (D2.out w4 A3 A4 c3 c4 S4.out S5.out B4.out).mono ?_
    rintro e w5 ⟨A6, c6, rfl, o5, b5⟩
    have O5 := Lib.hid (Sl.of_own o5)
    have O4' := Lib.hid (O4.out.below b5)
    have B5 := Lib.hid (B4.out.trans (b5.mono B4.out.size))
    obtain ⟨A7, u1, u2, u3⟩ := slice_upto A6 c6 E2 E1.length .i64 (by rw [HL1.out, HL2.out]; exact hab) O5.out.le
    have r7 := u2 _ O5.out.rd
    rw [HL1.out, HTK.out] at u1 r7
    rw [HL1.out, HL2.out] at u1
    have R7 := Lib.hid r7
    have C1 := same_yes A5 A7 c5 c6 E1 E1 w5 O4'.out.rd R7.out HB1.out rfl
    have C2 := ringSame_any A5 A6 c5 c6 E1 E2 w5 O4'.out.rd O5.out.rd HB1.out HB2.out (by rw [HL1.out]; omega)
    rw [HL1.out] at C1
    rw [HL1.out, HL2.out, HSAME.out, H3.out] at C2
    have D3 := Lib.hid C1
    have D4 := Lib.hid C2
    have D5 := Lib.hid (fun W (h : Below w5.heap.size w5 W) => copy_any A5 c5 E1 W (O4'.out.rd.below h) (by rw [HL1.out]; omega))
    have D6 := Lib.hid (fun W (h : Below w5.heap.size w5 W) A8 c8 (h8 : Own W w5.heap.size A8 c8 E1) => ringSame_any A5 A8 c5 c8 E1 E1 W (O4'.out.rd.below h) (Sl.of_own h8).rd HB1.out HB1.out (by rw [HL1.out]; omega))
    rw [HL1.out] at D5 D6
    clear o5 b5 u2 u3 r7 C1 C2 D1 D2
    go_wp2_with fail
    refine D3.out.mono ?_
    rintro e w6 ⟨rfl, rfl⟩
    go_wp2_with fail
    refine D4.out.mono ?_
    rintro e w6 ⟨rfl, n6, hw6⟩
    have b6 : Below w5.heap.size w5 w6 := by rw [hw6]; exact ⟨rfl, rfl, rfl, Nat.le_refl _, fun _ _ => rfl⟩
    have B6 := Lib.hid b6
    clear b6 hw6
    go_wp2_with fail
    refine (D5.out w6 B6.out).mono ?_
    rintro e w7 ⟨A8, c8, rfl, o8, b8⟩
    have O8 := Lib.hid (o8.base_le B6.out.size)
    have B7 := Lib.hid (B6.out.trans (b8.mono B6.out.size))
    clear o8 b8
    go_wp2_with fail
    refine (D6.out w7 B7.out A8 c8 O8.out).mono ?_
    rintro e w8 ⟨rfl, n8, hw8⟩
    have b8 : Below w7.heap.size w7 w8 := by rw [hw8]; exact ⟨rfl, rfl, rfl, Nat.le_refl _, fun _ _ => rfl⟩
    have B8 := Lib.hid (B5.out.trans ((B7.out.trans (b8.mono B7.out.size)).mono B5.out.size))
    have hs1 : sameB E1 E1 = true := by simp [sameB]
    clear b8 hw8
    go_wp2_with fail
    go_ret
    exact ⟨rfl, B8.out⟩
end Go.Proofs.YtfpgnaeiiponmaaDoor
