/-
  HeadBytes.
-/
import Derived.Test.YtomapklkbfjafaaDoorHeadZ
import Derived.Test.YtomapklkbfjafaaDoorSameH
import Derived.Test.YtomapklkbfjafaaDoorAppZ
namespace Go.Proofs.YtomapklkbfjafaaDoor
open Go.RowKit
set_option linter.unusedVariables false
set_option linter.unusedSimpArgs false

theorem wf_i64' {n : Int} (h : (Lit.int .i64 n).wf = true) : -9223372036854775808 ≤ n ∧ n ≤ 9223372036854775807 := by
  simp [Lit.wf, IntKind.min, IntKind.max, IntKind.signed, IntKind.bits] at h; omega
theorem byB_bytes {lg : Bool} {lv : Int} {ph : Bool} {a b : List Int} {pn z L : Int} (ha : Bytes a) (hb : Bytes b) : Bytes (byB lg lv ph a b pn z L) := by
  unfold byB
  split
  · rename_i hE
    rcases by_ways lg lv ph a b z L with ⟨_, h⟩ | ⟨h1, h4, hL, ⟨_, _, h⟩ | ⟨hf, ⟨_, h⟩ | ⟨hr, _⟩⟩⟩
    · omega
    · omega
    · omega
    · cases lg
      · simp only [Bool.false_eq_true, if_false]
        intro x hx
        unfold shortS at hx
        rcases List.mem_cons.1 hx with rfl | hx
        · split <;> omega
        · rcases List.mem_append.1 hx with hx | hx
          · exact ha x hx
          · exact be_bytes _ _ x hx
      · have hL2 := hf rfl
        have hrr : (lv = 0 ∨ lv = 1) ∧ a.length ≤ 20 ∧ b.length ≤ 20 := by
          unfold rightB at hr
          simp at hr
          exact ⟨by omega, by omega, by omega⟩
        obtain ⟨hlv, hal, hbl⟩ := hrr
        simp only [if_true]
        unfold longS
        refine Bytes.append (Bytes.append (Bytes.append (Bytes.append (Bytes.append (Bytes.append ?_ ha) ?_) hb) ?_) ?_) (be_bytes _ _)
        · intro x hx
          simp at hx
          rcases hx with rfl | rfl | rfl | rfl <;> omega
        · intro x hx
          simp at hx
          omega
        · split
          · intro x hx; simp at hx; omega
          · exact Bytes.nil
        · exact wenc_bytes (n := (z.toNat : Int) + L) (b := 16384) (t := 1) (k := 2) (by unfold IsSize; omega) (by omega) (by omega)
  · exact Bytes.nil
theorem byB_length {lg : Bool} {lv : Int} {ph : Bool} {a b : List Int} {pn z L : Int} (ha : a.length ≤ 30) (hb : b.length ≤ 30) : (byB lg lv ph a b pn z L).length ≤ 100 := by
  unfold byB
  split
  · rename_i hE
    rcases by_ways lg lv ph a b z L with ⟨_, h⟩ | ⟨h1, h4, _⟩
    · omega
    · cases lg
      · simp only [Bool.false_eq_true, if_false]
        rw [shortS, List.length_cons, List.length_append, be_length]
        omega
      · simp only [if_true]
        unfold longS
        simp only [List.length_append, be_length, wenc_length _ _ (show 1 ≤ 2 by omega)]
        have : ((if lv = 0 then [0] else []) : List Int).length ≤ 1 := by split <;> simp
        simp
        omega
  · simp

theorem own_setH {w : World} {base c' : Nat} {A : Option Addr} {l : List Int} {q : Nat} {cs : Array Value} (o : Own w base A c' l) (k : Blk w q 24 cs) (j : Nat) (u : Value) : Own (w.setCell ⟨q, j, none⟩ u) base A c' l := by
  refine o.grown (row := some q) (only_set (only_refl w (some q)) (p := ⟨q, j, none⟩) rfl u) (fun g' cur k' e => ?_)
  injection e with e
  subst e
  exact absurd rfl (k.ne_ k' (by decide))
set_option maxRecDepth 100000 in
set_option maxHeartbeats 3200000 in
theorem bytes4_walk (lg : Bool) (lv : Int) (ph : Bool) (A : Option Addr) (c : Nat) (a : List Int) (B : Option Addr) (d : Nat) (b : List Int) (pn z L : Int) (w : World) (ht : Tab w)
    (ha : Sl w A c a) (hab : Bytes a) (hb : Sl w B d b) (hbb : Bytes b) (wp : (Lit.int .u64 pn).wf = true) (wz : (Lit.int .i64 z).wf = true) (wL : (Lit.int .i64 L).wf = true) :
    Calls Tryd.prog 3 #[HV lg lv ph A a c B b d, .int .u64 pn, .int .i64 z, .int .i64 L] w fun r w' => r = .returned (.bool true) ∧ Below w.heap.size w w' := by
  have hpn := Lib.hid (u64_range wp)
  have hz := Lib.hid (wf_i64' wz)
  have hL := Lib.hid (wf_i64' wL)
  have AW := Lib.hid (fun W => awake4_any W)
  have ba : Below w.heap.size w (w.alloc (.cells #[.bool lg, .int .i64 lv, .bool ph, .slice A a.length c, .slice B b.length d] 24)) := (Below.refl _ _).alloc (Nat.le_refl _) _
  have CF := Few_any lg lv ph A a c B b d _ (ha.below ba) (hb.below ba)
  obtain ⟨a2, ha2⟩ : ∃ x, x = a.take 30 := ⟨_, rfl⟩
  obtain ⟨b2, hb2⟩ : ∃ x, x = b.take 30 := ⟨_, rfl⟩
  rw [← ha2, ← hb2] at CF
  have HAB := Lib.hid (show Bytes a2 by rw [ha2]; exact hab.take _)
  have HBB := Lib.hid (show Bytes b2 by rw [hb2]; exact hbb.take _)
  have hal : a2.length ≤ 30 := by rw [ha2, List.length_take]; omega
  have hbl : b2.length ≤ 30 := by rw [hb2, List.length_take]; omega
  have HT := Lib.hid ht
  unfold HV at CF ⊢
  have CF' := Lib.hid CF
  have BA := Lib.hid ba
  obtain ⟨gh, hgh⟩ : ∃ g, g = w.heap.size := ⟨_, rfl⟩
  have HGH := Lib.hid hgh
  clear ht ha hab hb hbb wp wz wL CF ha2 hb2 ba hgh
  go_enter Tryd.func3, Tryd.ntmps3
  go_wp2_with fail
  refine (AW.out _).mono ?_
  rintro e w1 ⟨rfl, rfl⟩
  go_wp2_with fail
  refine CF'.out.mono ?_
  rintro e w2 ⟨A2, c2, B2, d2, rfl, o2, o2', b2x⟩
  have kb := (Blk.new w 24 #[.bool lg, .int .i64 lv, .bool ph, .slice A a.length c, .slice B b.length d]).below b2x (by simp)
  have f0 := kb.frozen 0
  have f1 := kb.frozen 1
  have f2 := kb.frozen 2
  have f3 := kb.frozen 3
  have f4 := kb.frozen 4
  have q0 := kb.cell 0
  have q1 := kb.cell 1
  have q2 := kb.cell 2
  have q3 := kb.cell 3
  have q4 := kb.cell 4
  have BL2 := Lib.hid (BA.out.trans (b2x.mono BA.out.size))
  have KB := Lib.hid kb
  have O2 := Lib.hid (o2.base_le BA.out.size)
  have O2' := Lib.hid (o2'.base_le BA.out.size)
  clear kb o2 o2' b2x CF'
  have K3 := Lib.hid (set5_blk KB.out (.bool lg) (.int .i64 lv) (.bool ph) (.slice A2 a2.length c2) (.slice B2 b2.length d2))
  have B3 := Lib.hid (below_set5 BL2.out (Nat.le_refl _) (.bool lg) (.int .i64 lv) (.bool ph) (.slice A2 a2.length c2) (.slice B2 b2.length d2))
  have SA := Lib.hid (Sl.of_own (set5_own O2.out KB.out (by decide) (.bool lg) (.int .i64 lv) (.bool ph) (.slice A2 a2.length c2) (.slice B2 b2.length d2)))
  have SB := Lib.hid (Sl.of_own (set5_own O2'.out KB.out (by decide) (.bool lg) (.int .i64 lv) (.bool ph) (.slice A2 a2.length c2) (.slice B2 b2.length d2)))
  have OA := Lib.hid (set5_own O2.out KB.out (by decide) (.bool lg) (.int .i64 lv) (.bool ph) (.slice A2 a2.length c2) (.slice B2 b2.length d2))
  have OB := Lib.hid (set5_own O2'.out KB.out (by decide) (.bool lg) (.int .i64 lv) (.bool ph) (.slice A2 a2.length c2) (.slice B2 b2.length d2))
  go_wp2_with fail
  show Calls _ _ _ (set5 w2 w.heap.size (.bool lg) (.int .i64 lv) (.bool ph) (.slice A2 a2.length c2) (.slice B2 b2.length d2)) _
  generalize set5 w2 w.heap.size (.bool lg) (.int .i64 lv) (.bool ph) (.slice A2 a2.length c2) (.slice B2 b2.length d2) = w3 at K3 B3 SA SB OA OB ⊢
  clear f0 f1 f2 f3 f4 q0 q1 q2 q3 q4 KB BL2 O2 O2'
  have CG := Few_any lg lv ph A2 a2 c2 B2 b2 d2 w3 SA.out SB.out
  rw [List.take_of_length_le hal, List.take_of_length_le hbl] at CG
  unfold HV at CG
  have CG' := Lib.hid CG
  clear CG
  refine CG'.out.mono ?_
  rintro e w4 ⟨A3, c3, B3', d3, rfl, o4, o4', b4⟩
  have bm : Below w4.heap.size w4 (w4.alloc (.cells #[.bool lg, .int .i64 lv, .bool ph, .slice A3 a2.length c3, .slice B3' b2.length d3] 24)) := (Below.refl _ _).alloc (Nat.le_refl _) _
  have b5 := b4.trans (bm.mono b4.size)
  have K5 := Lib.hid (K3.out.below b5 K3.out.lt)
  have M5 := Lib.hid (Blk.new w4 24 #[.bool lg, .int .i64 lv, .bool ph, .slice A3 a2.length c3, .slice B3' b2.length d3])
  have B5 := Lib.hid (B3.out.trans (b5.mono B3.out.size))
  have OA5 := Lib.hid (OA.out.below b5)
  have OB5 := Lib.hid (OB.out.below b5)
  have SA5 := Lib.hid (SA.out.below b5)
  have SB5 := Lib.hid (SB.out.below b5)
  have MA5 := Lib.hid ((Sl.of_own o4).below bm)
  have MB5 := Lib.hid ((Sl.of_own o4').below bm)
  have CB := Bytes_u lg lv ph A3 a2 c3 B3' b2 d3 pn z L _ MA5.out MB5.out hpn.out (HT.out.below B5.out)
  obtain ⟨P, hP⟩ : ∃ P, P = byB lg lv ph a2 b2 pn z L := ⟨_, rfl⟩
  obtain ⟨E, hE⟩ : ∃ E, E = byE lg lv ph a2 b2 z L := ⟨_, rfl⟩
  have HQ := Lib.hid (show ∀ w r w', ByQ lg lv ph a2 b2 pn z L w r w' → ∃ A' c', r = .returned (.tuple #[.slice A' P.length c', .int .i64 E]) ∧ Own w' w.heap.size A' c' P ∧ Below w.heap.size w w' by
    rw [hP, hE]; exact fun w r w' h => h)
  have HPB := Lib.hid (show Bytes P by rw [hP]; exact byB_bytes HAB.out HBB.out)
  have hPl : P.length ≤ 100 := by rw [hP]; exact byB_length hal hbl
  have HP := Lib.hid hP
  have HE := Lib.hid hE
  unfold HV at CB
  have CB' := Lib.hid CB
  clear o4 o4' b4 bm b5 CG' CB hP hE SA SB K3 B3 OA OB
  go_wp2_with fail
  refine CB'.out.mono ?_
  rintro e w6 h6
  obtain ⟨A6, c6, rfl, o6, b6⟩ := HQ.out _ _ _ h6
  have k6 := K5.out.below b6 K5.out.lt
  have B6 := Lib.hid (B5.out.trans (b6.mono B5.out.size))
  have C6 := Lib.hid b6
  have K6 := Lib.hid k6
  have M6 := Lib.hid (M5.out.below b6 M5.out.lt)
  have SA6 := Lib.hid (SA5.out.below b6)
  have SB6 := Lib.hid (SB5.out.below b6)
  have MA6 := Lib.hid (MA5.out.below b6)
  have MB6 := Lib.hid (MB5.out.below b6)
  have O6 := Lib.hid o6
  have HZ6 := Lib.hid b6.size
  have q0 := k6.cell 0
  have q1 := k6.cell 1
  have q2 := k6.cell 2
  have q3 := k6.cell 3
  have q4 := k6.cell 4
  have CR := refBytes_u lg lv ph A2 a2 c2 B2 b2 d2 pn z L w6 SA6.out SB6.out hpn.out
  unfold HV at CR
  have CR' := Lib.hid CR
  clear h6 o6 b6 k6 CB' CR MA5 MB5
  go_wp2_with fail
  refine CR'.out.mono ?_
  rintro e w7 h7
  obtain ⟨A7, c7, rfl, o7, b7⟩ := HQ.out _ _ _ h7
  have k7 := K6.out.below b7 K6.out.lt
  have m7 := M6.out.below b7 M6.out.lt
  have B7 := Lib.hid (B6.out.trans (b7.mono B6.out.size))
  have C7 := Lib.hid (C6.out.trans (b7.mono C6.out.size))
  have K7 := Lib.hid k7
  have SA7 := Lib.hid (SA6.out.below b7)
  have SB7 := Lib.hid (SB6.out.below b7)
  have MA7 := Lib.hid (MA6.out.below b7)
  have MB7 := Lib.hid (MB6.out.below b7)
  have O7 := Lib.hid (O6.out.below b7)
  have HZ7 := Lib.hid (Nat.le_trans HZ6.out b7.size)
  have CE := Lib.hid (same_any A6 A7 c6 c7 P P w7 (Rd.of_own (O6.out.below b7)) (Rd.of_own o7) HPB.out HPB.out)
  rw [sameB_refl] at CE
  clear q0 q1 q2 q3 q4
  have q0 := k7.cell 0
  have q1 := k7.cell 1
  have q2 := k7.cell 2
  have q3 := k7.cell 3
  have q4 := k7.cell 4
  have m0 := m7.cell 0
  have m1 := m7.cell 1
  have m2 := m7.cell 2
  have m3 := m7.cell 3
  have m4 := m7.cell 4
  have CS := Lib.hid (sameH_yes lg lv ph A3 c3 a2 B3' d3 b2 A2 c2 B2 d2 w7 MA7.out.rd MB7.out.rd SA7.out.rd SB7.out.rd HAB.out HBB.out)
  clear h7 o7 b7 k7 m7 CR' K6 M6 O6 SA6 SB6 MA6 MB6 HZ6
  go_wp2_with fail
  refine CE.out.mono ?_
  rintro e w8 ⟨rfl, rfl⟩
  have hee : (E != E) = false := by simp
  go_wp2_with fail
  refine CS.out.mono ?_
  rintro e w8 ⟨rfl, b8⟩
  have B8 := Lib.hid (B7.out.trans (b8.mono B7.out.size))
  have C8 := Lib.hid (C7.out.trans (b8.mono C7.out.size))
  have K8 := Lib.hid (K7.out.below b8 K7.out.lt)
  have SA8 := Lib.hid (SA7.out.below b8)
  have SB8 := Lib.hid (SB7.out.below b8)
  have O8 := Lib.hid (O7.out.below b8)
  have HZ8 := Lib.hid (Nat.le_trans HZ7.out b8.size)
  clear b8 CE CS K7 SA7 SB7 O7 HZ7 MA7 MB7 q0 q1 q2 q3 q4 m0 m1 m2 m3 m4 B6 B7 C6 C7 hee
  by_cases hE0 : E = 0
  · by_cases hL2 : 2000 < L
    · have e0 : (E != 0) = false := by simp [hE0]
      have e1 : decide (2000 < L) = true := by simpa using hL2
      clear hE0 hL2
      go_wp2_with fail
      go_ret
      exact ⟨rfl, B8.out⟩
    · have hzz : 1 ≤ z ∧ z ≤ 4 ∧ 0 ≤ L := by
        have hE := HE.out
        rcases by_ways lg lv ph a2 b2 z L with ⟨_, h⟩ | ⟨h1, h4, h0, _⟩
        · omega
        · exact ⟨h1, h4, h0⟩
      obtain ⟨hz1, hz4, hL0⟩ := hzz
      by_cases h20 : L + z < 20
      · have e0 : (E != 0) = false := by simp [hE0]
        have e1 : decide (2000 < L) = false := by simpa using hL2
        have e2 : decide (L + z < 20) = true := by simpa using h20
        have hL3 : L ≤ 2000 := by omega
        clear hE0 hL2 h20
        go_wp2_with fail
        go_ret
        exact ⟨rfl, B8.out⟩
      · have e0 : (E != 0) = false := by simp [hE0]
        have e1 : decide (2000 < L) = false := by simpa using hL2
        have e2 : decide (L + z < 20) = false := by simpa using h20
        have hL3 : L ≤ 2000 := by omega
        obtain ⟨n, hn⟩ := Int.eq_ofNat_of_zero_le hL0
        have hrd := by_read (pn := pn) n hn.symm (by rw [← HE.out]; exact hE0) (by omega) hL3
        rw [← HP.out] at hrd
        obtain ⟨X, hX⟩ : ∃ X, X = P ++ List.replicate n 0 := ⟨_, rfl⟩
        rw [← hX] at hrd
        have HRD := Lib.hid hrd
        have HX := Lib.hid hX
        have hXl : X.length = P.length + n := by rw [hX, List.length_append, List.length_replicate]
        have hXb : Bytes X := by
          rw [hX]
          refine HPB.out.append fun x hx => ?_
          rw [List.eq_of_mem_replicate hx]; decide
        have HXB := Lib.hid hXb
        have HXL := Lib.hid hXl
        have hX2 : X.length ≤ 2100 := by omega
        have HN := Lib.hid hn
        have hn16 : 0 < n ∧ n ≤ 20000 := by omega
        obtain ⟨Y, hY⟩ : ∃ Y, Y = X ++ [7, 7] := ⟨_, rfl⟩
        have HY := Lib.hid hY
        clear hE0 hL2 h20 hrd hX hXl hXb hY hn
        go_wp2_with (at_builtin
                     refine wpList_appN rfl (.tmp 68) (.tmp 69) rfl (w4.alloc (.cells #[.bool lg, .int .i64 lv, .bool ph, .slice A3 a2.length c3, .slice B3' b2.length d3] 24)).heap.size (l := P) n X HX.out hn16 L HN.out rfl rfl O8.out (by omega) HZ8.out ?_
                     intro A9 c9 w9 o9 g9 b9
                     have O9 := Lib.hid o9
                     have B9' := Lib.hid b9
                     clear o9 g9 b9)
        have C9 := Lib.hid (C8.out.trans B9'.out)
        have CC := Lib.hid (copy_any A9 c9 X w9 (Rd.of_own O9.out) (by omega))
        refine CC.out.mono ?_
        rintro e w10 ⟨A10, c10, rfl, o10, b10⟩
        have bl : Below w10.heap.size w10 (w10.alloc (.cells #[.int .u8 7, .int .u8 7] 5)) := (Below.refl _ _).alloc (Nat.le_refl _) _
        have OP := Lib.hid (o10.below bl)
        have RP := Lib.hid (show Rd (w10.alloc (.cells #[.int .u8 7, .int .u8 7] 5)) (some ⟨w10.heap.size, 0, none⟩) [7, 7] from rd_lit4 w10 [7, 7] (by decide))
        have HZ10 := Lib.hid (Nat.le_trans b10.size bl.size)
        have C10 := Lib.hid (b10.trans (bl.mono b10.size))
        clear o10 b10 bl CC
        go_wp2_with (at_builtin
                     go_must (refine wpList_appX rfl (.tmp 73) (.tmp 74) rfl w9.heap.size (l := X) (news := [7, 7]) Y HY.out rfl rfl OP.out RP.out (by simp; omega) HZ10.out ?_)
                     intro A11 c11 w11 o11 g11 b11
                     have O11 := Lib.hid o11
                     have C11 := Lib.hid (C9.out.trans ((C10.out.trans b11).mono C9.out.size))
                     have hcl := (Sl.of_own o11).le
                     have hyl : X.length ≤ Y.length := by rw [HY.out, List.length_append]; omega
                     have s1 := slice_upto_is A11 c11 Y.length X.length .i64 (X.length : Int) rfl hyl hcl
                     clear o11 g11 b11)
        have eY : Y.take X.length = X := by rw [HY.out]; simp
        have S11 : Sl w11 A11 c11 X := by
          have := (Sl.of_own O11.out).upto (k := X.length) hyl
          rwa [eY] at this
        obtain ⟨r1, r2, r3, r4, r5, r6, r7⟩ := HRD.out
        have CR := Read_yes A11 c11 X w11 S11 HXB.out (by omega) r1
        rw [r2, show ((P.length : Int) - z + hdV X 0) = (X.length : Int) by rw [← r3, r2], r4, r5, r6, r7] at CR
        have CR' := Lib.hid CR
        have K11 := Lib.hid (K5.out.below C11.out K5.out.lt)
        have OA11 := Lib.hid (OA5.out.below C11.out)
        have OB11 := Lib.hid (OB5.out.below C11.out)
        have B11 := Lib.hid (B5.out.trans (C11.out.mono B5.out.size))
        clear r1 r2 r3 r4 r5 r6 r7 CR S11 eY s1 hcl hyl O11 OP RP HZ10 C10 C11 C9 O9 K5 OA5 OB5 B5
        refine CR'.out.mono ?_
        rintro e w12 ⟨A12, c12, B12, d12, rfl, o12, o12', b12⟩
        have k12 := K11.out.below b12 K11.out.lt
        have bq : Below (w12.setCell ⟨w.heap.size, 2, none⟩ (.bool false)).heap.size (w12.setCell ⟨w.heap.size, 2, none⟩ (.bool false)) ((w12.setCell ⟨w.heap.size, 2, none⟩ (.bool false)).alloc (.cells #[.bool lg, .int .i64 lv, .bool false, .slice A12 a2.length c12, .slice B12 b2.length d12] 24)) := (Below.refl _ _).alloc (Nat.le_refl _) _
        have hlt : w.heap.size < w12.heap.size := k12.lt
        have hne : ¬ w12.heap.size = w.heap.size := by omega
        have hne2 : ¬ w.heap.size = w12.heap.size := by omega
        have q0 := k12.cell 0
        have q1 := k12.cell 1
        have q2 := k12.cell 2
        have q3 := k12.cell 3
        have q4 := k12.cell 4
        have f2 := k12.frozen 2
        have W13 := (own_setH o12 k12 2 (.bool false)).below bq
        have W13' := (own_setH o12' k12 2 (.bool false)).below bq
        have V13 := (own_setH (OA11.out.below b12) k12 2 (.bool false)).below bq
        have V13' := (own_setH (OB11.out.below b12) k12 2 (.bool false)).below bq
        have bs := (B11.out.trans (b12.mono B11.out.size)).setCell (p := ⟨w.heap.size, 2, none⟩) (Nat.le_refl _) (.bool false)
        have B13 := Lib.hid (bs.trans (bq.mono bs.size))
        have CS := Lib.hid (sameH_yes lg lv false A12 c12 a2 B12 d12 b2 A2 c2 B2 d2 _ (Rd.of_own W13) (Rd.of_own W13') (Rd.of_own V13) (Rd.of_own V13') HAB.out HBB.out)
        clear o12 o12' b12 k12 bq bs W13 W13' V13 V13' CR'
        go_wp2_with fail
        refine CS.out.mono ?_
        rintro e w14 ⟨rfl, b14⟩
        have B14 := Lib.hid (B13.out.trans (b14.mono B13.out.size))
        clear b14 CS
        go_wp2_with fail
        go_ret
        exact ⟨rfl, B14.out⟩
  · have e0 : (E != 0) = true := by simp [hE0]
    clear hE0
    go_wp2_with fail
    go_ret
    exact ⟨rfl, B8.out⟩
end Go.Proofs.YtomapklkbfjafaaDoor
