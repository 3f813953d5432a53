/-
  The reference's Read of any bytes; two heads alike.
-/
import Derived.Test.YtomapklkbfjafaaHeadS
import Derived.Test.YtomapklkbfjafaaHeadO
namespace Go.Proofs.Ytomapklkbfjafaa
open Go.RowKit
set_option linter.unusedVariables false

theorem refRead_any (A : Option Addr) (c : Nat) (p : List Int) (w : World) (h : Sl w A c p) (hb : Bytes p) (hl : p.length ≤ 300) :
    Calls Try.prog 11 #[.slice A p.length c] w fun e w' => RdAns p w e w' := by
  have no : ∀ (p : List Int) (E : Int) (e : Ending) (w' : World), rdErr p = E → E ≠ 0 → RdNo E w e w' → RdAns p w e w' := by
    intro p E e w' h1 h2 h3
    subst h1
    exact .inl ⟨h2, h3⟩
  match p, h, hb, hl with
  | [], h, hb, hl => exact (refRead_nil A c w).mono fun e w' h => no [] 2 e w' rfl (by decide) h
  | f :: r, h, hb, hl =>
    by_cases hf : f / 64 % 2 = 0
    · exact (refRead_early A c f r 4 w h hb hl (.inl ⟨hf, rfl⟩)).mono fun e w' h => no _ 4 e w' (rd_fix hf) (by decide) h
    · by_cases hlt : f < 128
      · obtain ⟨m1, m2, m3⟩ := short_gen (r := r) hlt hf
        by_cases h8 : r.length < 8
        · exact (refRead_early A c f r 2 w h hb hl (.inr (.inl ⟨hf, hlt, h8, rfl⟩))).mono fun e w' h => no _ 2 e w' (m1 h8) (by decide) h
        · by_cases h28 : r.length < 28
          · exact (refRead_early A c f r 4 w h hb hl (.inr (.inr (.inl ⟨hf, hlt, h8, h28, rfl⟩)))).mono fun e w' h => no _ 4 e w' (m2 (by omega) h28) (by decide) h
          · exact (refRead_short A c f r w h hb hl hf hlt (by omega)).mono fun e w' h => .inr ⟨(m3 (by omega)).1, h⟩
      · by_cases h0 : f / 16 % 4 = 0
        · by_cases h4 : r.length < 4
          · exact (refRead_early A c f r 2 w h hb hl (.inr (.inr (.inr (.inr (.inl ⟨hf, hlt, h0, h4, rfl⟩)))))).mono fun e w' h => no _ 2 e w' (rd_four hlt hf (.inl h0) h4) (by decide) h
          · exact refRead_long A c f r w h hb hl hf hlt (.inl h0) (by omega)
        · by_cases h2 : f / 16 % 4 = 2
          · by_cases h4 : r.length < 4
            · exact (refRead_early A c f r 2 w h hb hl (.inr (.inr (.inr (.inr (.inr ⟨hf, hlt, h0, h2, h4, rfl⟩)))))).mono fun e w' h => no _ 2 e w' (rd_four hlt hf (.inr h2) h4) (by decide) h
            · exact refRead_long A c f r w h hb hl hf hlt (.inr h2) (by omega)
          · exact (refRead_early A c f r 4 w h hb hl (.inr (.inr (.inr (.inl ⟨hf, hlt, h0, h2, rfl⟩))))).mono fun e w' h => no _ 4 e w' (rd_lvl hlt hf h0 h2) (by decide) h

theorem sameB_refl (a : List Int) : sameB a a = true := by simp [sameB]
set_option maxHeartbeats 1600000 in
theorem sameH_yes (lg : Bool) (lv : Int) (ph : Bool) (A : Option Addr) (c : Nat) (a : List Int) (B : Option Addr) (d : Nat) (b : List Int) (A' : Option Addr) (c' : Nat) (B' : Option Addr) (d' : Nat) (w : World)
    (ha : Rd w A a) (hb : Rd w B b) (ha' : Rd w A' a) (hb' : Rd w B' b) (h1 : Bytes a) (h2 : Bytes b) :
    Calls Try.prog 12 #[.agg #[.bool lg, .int .i64 lv, .bool ph, .slice A a.length c, .slice B b.length d], .agg #[.bool lg, .int .i64 lv, .bool ph, .slice A' a.length c', .slice B' b.length d']] w fun e w' => e = .returned (.bool true) ∧ Below w.heap.size w w' := by
  have C1 := Lib.hid (fun (W : World) (hb : Below w.heap.size w W) => same_any A A' c c' a a W (ha.below hb) (ha'.below hb) h1 h1)
  have C2 := Lib.hid (fun (W : World) (hx : Below w.heap.size w W) => same_any B B' d d' b b W (hb.below hx) (hb'.below hx) h2 h2)
  rw [sameB_refl] at C1 C2
  clear ha hb ha' hb' h1 h2
  have bb : Below w.heap.size w ((w.alloc (.cells #[.bool lg, .int .i64 lv, .bool ph, .slice A a.length c, .slice B b.length d] 27)).alloc (.cells #[.bool lg, .int .i64 lv, .bool ph, .slice A' a.length c', .slice B' b.length d'] 27)) := ((Below.refl _ _).alloc (Nat.le_refl _) _).alloc (by simp) _
  have BB := Lib.hid bb
  clear bb
  go_enter Try.func12, Try.ntmps12
  go_wp2_with fail
  refine (C1.out _ BB.out).mono ?_
  rintro e w1 ⟨rfl, rfl⟩
  go_wp2_with fail
  refine (C2.out _ BB.out).mono ?_
  rintro e w1 ⟨rfl, rfl⟩
  go_wp2_with fail
  go_ret
  exact ⟨rfl, BB.out⟩
theorem tkO_bytes {p : List Int} (h : Bytes p) (e : Int) (n : Nat) : Bytes (tkO p e n) := by unfold tkO; split; exact h.take _; exact Bytes.nil
theorem hdTo_bytes {p : List Int} (h : Bytes p) : Bytes (hdTo p 0) := by
  unfold hdTo
  split
  · exact tkO_bytes (tkL_bytes h _ _) _ _
  · exact tkO_bytes (tkL_bytes (tkL_bytes (tkL_bytes h _ _) _ _) _ _) _ _
theorem hdFr_bytes {p : List Int} (h : Bytes p) : Bytes (hdFr p 0) := by
  unfold hdFr
  split
  · exact Bytes.nil
  · exact tkO_bytes (tkL_bytes (nmL_bytes (tkL_bytes (tkL_bytes h _ _) _ _) _) _ _) _ _
/-- What both readers answer. -/
def anL (p : List Int) : Bool := if rdErr p = 0 then hdLong p 0 else false
def anV (p : List Int) : Int := if rdErr p = 0 then hdLvl p 0 else 0
def anT (p : List Int) : List Int := if rdErr p = 0 then hdTo p 0 else []
def anF (p : List Int) : List Int := if rdErr p = 0 then hdFr p 0 else []
def anA (p : List Int) : Int := if rdErr p = 0 then rdAt p else 0
def anE (p : List Int) : Int := if rdErr p = 0 then rdAt p + hdV p 0 else 0
theorem an_bytes {p : List Int} (h : Bytes p) : Bytes (anT p) ∧ Bytes (anF p) := by
  unfold anT anF
  split
  · exact ⟨hdTo_bytes h, hdFr_bytes h⟩
  · exact ⟨Bytes.nil, Bytes.nil⟩
def AnQ (p : List Int) (w : World) (r : Ending) (w' : World) : Prop :=
  ∃ A1 c1 A2 c2, r = .returned (.tuple #[.agg #[.bool (anL p), .int .i64 (anV p), .bool false, .slice A1 (anT p).length c1, .slice A2 (anF p).length c2], .int .i64 (anA p), .int .i64 (anE p), .int .i64 (rdErr p)]) ∧
      Rd w' A1 (anT p) ∧ Rd w' A2 (anF p) ∧ Below w.heap.size w w'
theorem an_no {p : List Int} {w : World} {r : Ending} {w' : World} (h : rdErr p ≠ 0) (hr : r = .returned (.tuple #[.agg #[.bool false, .int .i64 0, .bool false, .slice none 0 0, .slice none 0 0], .int .i64 0, .int .i64 0, .int .i64 (rdErr p)])) (hb : Below w.heap.size w w') : AnQ p w r w' := by
  refine ⟨none, 0, none, 0, ?_, ?_, ?_, hb⟩
  · rw [hr, anL, anV, anT, anF, anA, anE, if_neg h, if_neg h, if_neg h, if_neg h, if_neg h, if_neg h]; rfl
  · rw [anT, if_neg h]; exact Rd.nil _ _
  · rw [anF, if_neg h]; exact Rd.nil _ _
theorem an_yes {p : List Int} {w : World} {r : Ending} {w' : World} (h : rdErr p = 0) (hr : RdYes p w r w') : AnQ p w r w' := by
  obtain ⟨A1, c1, A2, c2, rfl, o1, o2, hb⟩ := hr
  refine ⟨A1, c1, A2, c2, ?_, ?_, ?_, hb⟩
  · rw [anL, anV, anT, anF, anA, anE, if_pos h, if_pos h, if_pos h, if_pos h, if_pos h, if_pos h, h]
  · rw [anT, if_pos h]; exact Rd.of_own o1
  · rw [anF, if_pos h]; exact Rd.of_own o2
theorem Read_an (A : Option Addr) (c : Nat) (p : List Int) (w : World) (h : Sl w A c p) (hb : Bytes p) (hl : p.length ≤ 300) :
    Calls Try.prog 10 #[.slice A p.length c] w fun r w' => AnQ p w r w' := by
  by_cases hE : rdErr p = 0
  · exact (Read_yes A c p w h hb (by omega) hE).mono fun r w' h => an_yes hE h
  · exact (Read_no A c p w h hb (by omega) hE).mono fun r w' h => an_no hE h.1 h.2
theorem refRead_an (A : Option Addr) (c : Nat) (p : List Int) (w : World) (h : Sl w A c p) (hb : Bytes p) (hl : p.length ≤ 300) :
    Calls Try.prog 11 #[.slice A p.length c] w fun r w' => AnQ p w r w' := by
  refine (refRead_any A c p w h hb hl).mono fun r w' h => ?_
  rcases h with ⟨h1, h2⟩ | ⟨h1, h2⟩
  · exact an_no h1 h2.1 h2.2
  · exact an_yes h1 h2
set_option maxRecDepth 100000 in
set_option maxHeartbeats 3200000 in
theorem reads4_walk (A : Option Addr) (c : Nat) (p : List Int) (w : World) (hr : Rd w A p) (hb : Bytes p) (hl : p.length ≤ c) (hm : c ≤ 9223372036854775807) (hn : A = none → c = 0) :
    Calls Try.prog 3 #[.slice A p.length c] w fun r w' => r = .returned (.bool true) ∧ Below w.heap.size w w' := by
  have AW := Lib.hid (fun W => awake4_any W)
  have CC := Lib.hid (cut_any A c p 300 w hr (by omega) hl (by omega) (by omega))
  obtain ⟨q, hq⟩ : ∃ q, q = p.take (300 : Int).toNat := ⟨_, rfl⟩
  rw [← hq] at CC
  have HB := Lib.hid (show Bytes q by rw [hq]; exact hb.take _)
  have hql : q.length ≤ 300 := by rw [hq, List.length_take]; omega
  clear hr hb hn hq hl hm
  go_enter Try.func3, Try.ntmps3
  go_wp2_with fail
  refine (AW.out _).mono ?_
  rintro e w1 ⟨rfl, rfl⟩
  go_wp2_with fail
  refine CC.out.mono ?_
  rintro e w1 ⟨A1, c1, rfl, o1, b1⟩
  have S1 := Lib.hid (Sl.of_own o1)
  have B1 := Lib.hid b1
  have CP := Lib.hid (copy_any A1 c1 q w1 (Rd.of_own o1) (by omega))
  clear o1 b1 CC
  go_wp2_with fail
  refine CP.out.mono ?_
  rintro e w2 ⟨A2, c2, rfl, o2, b2⟩
  obtain ⟨X, hX⟩ : ∃ X, X = q ++ [165] := ⟨_, rfl⟩
  have HX := Lib.hid hX
  have hXl : X.length = q.length + 1 := by rw [hX]; simp
  have HXL := Lib.hid hXl
  have bl : Below w2.heap.size w2 (w2.alloc (.cells #[.int .u8 165] 5)) := (Below.refl _ _).alloc (Nat.le_refl _) _
  have OP := Lib.hid (o2.below bl)
  have RP := Lib.hid (Rd.of_own (own_lit1 w2 165 (Nat.le_refl _)))
  have HZ2 := Lib.hid (Nat.le_trans b2.size bl.size)
  have HBL := Lib.hid (b2.trans (bl.mono b2.size))
  clear bl o2 b2 CP hX hXl
  go_wp2_with (at_builtin
               go_must (refine wpList_appX rfl (.tmp 17) (.tmp 18) rfl w1.heap.size (l := q) (news := [165]) X HX.out rfl rfl OP.out RP.out (by simp; omega) HZ2.out ?_)
               intro A3 c3 w3 o3 g3 b3
               have O3 := Lib.hid o3
               have B13 := Lib.hid (HBL.out.trans b3)
               have hcl := (Sl.of_own o3).le
               have s1 := slice_upto_is A3 c3 X.length q.length .i64 (q.length : Int) rfl (by have := HXL.out; omega) hcl
               clear o3 g3 b3)
  have o3 := O3.out
  have hXl := HXL.out
  have h4 : q.length + 1 ≤ c3 := by have := (Sl.of_own o3).le; omega
  have hm3 := (Sl.of_own o3).max
  have eX : X.take q.length = q := by rw [HX.out]; simp
  have S3 : Sl w3 A3 c3 q := by
    have := (Sl.of_own o3).upto (k := q.length) (by omega)
    rwa [eX] at this
  have S1' := S1.out.below B13.out
  have BB := B1.out.trans (B13.out.mono B1.out.size)
  obtain ⟨g, hg, _, hgl⟩ := o3.form (by omega)
  subst hg
  have hlast : w3.cell? ⟨g, q.length, none⟩ = some (.int .u8 165) := by
    have := (Rd.of_own o3).cell (j := q.length) (x := 165) (by rw [HX.out]; simp)
    simpa using this
  have CR := Lib.hid (Read_an (some ⟨g, 0, none⟩) c3 q w3 S3 HB.out hql)
  obtain ⟨L, hL⟩ : ∃ x, x = anL q := ⟨_, rfl⟩
  obtain ⟨V, hV⟩ : ∃ x, x = anV q := ⟨_, rfl⟩
  obtain ⟨T, hT⟩ : ∃ x, x = anT q := ⟨_, rfl⟩
  obtain ⟨F, hF⟩ : ∃ x, x = anF q := ⟨_, rfl⟩
  obtain ⟨D, hD⟩ : ∃ x, x = anA q := ⟨_, rfl⟩
  obtain ⟨N, hN⟩ : ∃ x, x = anE q := ⟨_, rfl⟩
  obtain ⟨E, hE⟩ : ∃ x, x = rdErr q := ⟨_, rfl⟩
  have HAN := Lib.hid (show ∀ w r w', AnQ q w r w' → ∃ A1 c1 A2 c2, r = .returned (.tuple #[.agg #[.bool L, .int .i64 V, .bool false, .slice A1 T.length c1, .slice A2 F.length c2], .int .i64 D, .int .i64 N, .int .i64 E]) ∧ Rd w' A1 T ∧ Rd w' A2 F ∧ Below w.heap.size w w' by
    rw [hL, hV, hT, hF, hD, hN, hE]; exact fun w r w' h => h)
  have HTB := Lib.hid (show Bytes T by rw [hT]; exact (an_bytes HB.out).1)
  have HFB := Lib.hid (show Bytes F by rw [hF]; exact (an_bytes HB.out).2)
  have HS3 := Lib.hid S3
  have HS1 := Lib.hid S1'
  have HBB := Lib.hid BB
  have HLAST := Lib.hid hlast
  clear hL hV hT hF hD hN hE S3 S1' BB hlast o3 O3 B13 B1 S1 OP RP HZ2 HBL hcl s1 eX
  refine CR.out.mono ?_
  rintro e w5 h5
  obtain ⟨A5, c5, A6, c6, rfl, r5, r6, b5⟩ := HAN.out _ _ _ h5
  have ba : Below w5.heap.size w5 (w5.alloc (.cells #[.bool L, .int .i64 V, .bool false, .slice A5 T.length c5, .slice A6 F.length c6] 27)) := (Below.refl _ _).alloc (Nat.le_refl _) _
  have K5 := Lib.hid (Blk.new w5 27 #[.bool L, .int .i64 V, .bool false, .slice A5 T.length c5, .slice A6 F.length c6])
  have R5 := Lib.hid (r5.below ba)
  have R6 := Lib.hid (r6.below ba)
  have b5' := b5.trans (ba.mono b5.size)
  have HS1 := Lib.hid (HS1.out.below b5')
  have HS3 := Lib.hid (HS3.out.below b5')
  have HLAST := Lib.hid ((b5'.cell (p := ⟨g, q.length, none⟩) hgl).trans HLAST.out)
  have HBB := Lib.hid (HBB.out.trans (b5'.mono HBB.out.size))
  have hgl := Nat.lt_of_lt_of_le hgl b5'.size
  have CF := Lib.hid (refRead_an A1 c1 q _ HS1.out HB.out hql)
  clear h5 r5 r6 b5 ba b5' CR
  go_wp2_with fail
  refine CF.out.mono ?_
  rintro e w7 h7
  obtain ⟨A7, c7, A8, c8, rfl, r7, r8, b7⟩ := HAN.out _ _ _ h7
  have ba : Below w7.heap.size w7 (w7.alloc (.cells #[.bool L, .int .i64 V, .bool false, .slice A7 T.length c7, .slice A8 F.length c8] 27)) := (Below.refl _ _).alloc (Nat.le_refl _) _
  have b7' := b7.trans (ba.mono b7.size)
  have k5 := K5.out.below b7 K5.out.lt
  have u0 := k5.cell 0
  have u1 := k5.cell 1
  have u2 := k5.cell 2
  have u3 := k5.cell 3
  have u4 := k5.cell 4
  have hkl : w5.heap.size < w7.heap.size := k5.lt
  have HS1 := Lib.hid (HS1.out.below b7')
  have HS3 := Lib.hid (HS3.out.below b7')
  have HLAST := Lib.hid ((b7'.cell (p := ⟨g, q.length, none⟩) hgl).trans HLAST.out)
  have HBB := Lib.hid (HBB.out.trans (b7'.mono HBB.out.size))
  have hgl := Nat.lt_of_lt_of_le hgl b7'.size
  have CS := Lib.hid (sameH_yes L V false A5 c5 T A6 c6 F A7 c7 A8 c8 _ (R5.out.below b7') (R6.out.below b7') (r7.below ba) (r8.below ba) HTB.out HFB.out)
  clear h7 r7 r8 b7 ba b7' CF k5 R5 R6 K5
  go_wp2_with fail
  refine CS.out.mono ?_
  rintro e w8 ⟨rfl, b8⟩
  have HS1 := Lib.hid (HS1.out.below b8)
  have HS3 := Lib.hid (HS3.out.below b8)
  have hlast := (b8.cell (p := ⟨g, q.length, none⟩) hgl).trans HLAST.out
  have HBB := Lib.hid (HBB.out.trans (b8.mono HBB.out.size))
  have CE := Lib.hid (same_any (some ⟨g, 0, none⟩) A1 c3 c1 q q w8 HS3.out.rd HS1.out.rd HB.out HB.out)
  rw [sameB_refl] at CE
  clear b8 CS HLAST
  go_wp2_with fail
  refine CE.out.mono ?_
  rintro e w9 ⟨rfl, rfl⟩
  go_wp2_with fail
  go_ret
  exact ⟨rfl, HBB.out⟩
end Go.Proofs.Ytomapklkbfjafaa
