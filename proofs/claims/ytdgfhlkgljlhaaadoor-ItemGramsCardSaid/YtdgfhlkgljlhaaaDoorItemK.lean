/-
  ItemGrams: the walk (made by mkItemK.py).
-/
import Derived.Test.YtdgfhlkgljlhaaaDoorItemJ
import Derived.Test.YtdgfhlkgljlhaaaDoorOpenT
import Derived.Deep.DeepCutAuto
namespace Go.Proofs.YtdgfhlkgljlhaaaDoor
open Go.RowKit
set_option linter.unusedVariables false
set_option linter.unusedSimpArgs false
theorem ovC_lit (o : OV) (A : Option Addr) (c : Nat) : ovC o A c = #[.int .u64 o.grp, .int .u64 o.obj, .int .u8 o.prio, .bool o.gram, .slice A o.data.length c] := rfl
structure OwnE (w : World) (A : Option Addr) (c : Nat) (l : List Int) : Prop where
  ex : ∃ b, Own w b A c l
theorem OwnE.below {w w' : World} {A : Option Addr} {c : Nat} {l : List Int} (h : OwnE w A c l) (hb : Below w.heap.size w w') : OwnE w' A c l := by
  obtain ⟨b, h⟩ := h.ex
  exact ⟨b, h.below hb⟩
theorem OwnE.rd {w : World} {A : Option Addr} {c : Nat} {l : List Int} (h : OwnE w A c l) : Rd w A l := by
  obtain ⟨b, h⟩ := h.ex
  exact Rd.of_own h
theorem OwnE.sl {w : World} {A : Option Addr} {c : Nat} {l : List Int} (h : OwnE w A c l) : Sl w A c l := by
  obtain ⟨b, h⟩ := h.ex
  exact Sl.of_own h
theorem OwnE.lt {w : World} {A : Option Addr} {c : Nat} {l : List Int} (h : OwnE w A c l) : ∀ ad, A = some ad → ad.block < w.heap.size := fun ad e => by
  obtain ⟨b, h⟩ := h.ex
  rcases OwnV.row_is (show OwnV w b 5 1 A c l.length (U8 l) from h) with ⟨hA, _⟩ | ⟨g, cur, hA, _, hb, _⟩
  · rw [hA] at e; cases e
  · rw [hA] at e
    injection e with e
    subst e
    exact hb.lt
/-- What stays through the law: the object's box, q, the bytes p, the object's data. -/
structure GrS (w : World) (gm : Nat) (OC : Array Value) (g c6 : Nat) (l : List Int) (A3 : Option Addr) (c3 : Nat) (A2 : Option Addr) (D : List Int) : Prop where
  box : Blk w gm 27 OC
  q : Sl w (some ⟨g, 0, none⟩) c6 l
  last : w.cell? ⟨g, l.length, none⟩ = some (.int .u8 165)
  lt : g < w.heap.size
  p : OwnE w A3 c3 l
  oE : ∃ c, OwnE w A2 c D
theorem GrS.o {w : World} {gm : Nat} {OC : Array Value} {g c6 : Nat} {l : List Int} {A3 : Option Addr} {c3 : Nat} {A2 : Option Addr} {D : List Int} (h : GrS w gm OC g c6 l A3 c3 A2 D) : Rd w A2 D := by
  obtain ⟨c, h⟩ := h.oE
  exact h.rd
theorem GrS.below {w w' : World} {gm : Nat} {OC : Array Value} {g c6 : Nat} {l : List Int} {A3 : Option Addr} {c3 : Nat} {A2 : Option Addr} {D : List Int} (h : GrS w gm OC g c6 l A3 c3 A2 D) (hb : Below w.heap.size w w') : GrS w' gm OC g c6 l A3 c3 A2 D :=
  ⟨h.box.below hb h.box.lt, h.q.below hb, (hb.cell (p := ⟨g, l.length, none⟩) h.lt).trans h.last, Nat.lt_of_lt_of_le h.lt hb.size, h.p.below hb, by obtain ⟨c, x⟩ := h.oE; exact ⟨c, x.below hb⟩⟩
set_option maxRecDepth 100000 in
set_option maxHeartbeats 6400000 in
theorem grams16_walk (al : Int) (o : OV) (oA : Option Addr) (oc : Nat) (A : Option Addr) (c : Nat) (p : List Int) (w : World) (ht : Tab w) (wa : (Lit.int .u64 al).wf = true) (ho : OVOk w o oA oc) (hr : Rd w A p) (hb : Bytes p) (hc : p.length ≤ c) (hm : c ≤ 9223372036854775807) (hn : A = none → c = 0) :
    Calls Tryd.prog 3 #[.int .u64 al, .agg (ovC o oA oc), .slice A p.length c] w fun r w' => r = .returned (.bool true) ∧ Below w.heap.size w w' := by
  have hal := (wf_u64 wa).1
  obtain ⟨l, hl⟩ : ∃ l, l = p.take (300 : Int).toNat := ⟨_, rfl⟩
  have hll : l.length ≤ 300 := by rw [hl]; simp; omega
  have HL := Lib.hid hl
  have HLB := Lib.hid (show Bytes l by rw [hl]; exact hb.take _)
  obtain ⟨O, hO⟩ : ∃ O, O = cutO o := ⟨_, rfl⟩
  have HOB := Lib.hid (show (0 ≤ O.grp ∧ 0 ≤ O.obj) ∧ (0 ≤ O.prio ∧ O.prio < 256) ∧ Bytes O.data ∧ O.data.length ≤ 2100 from by rw [hO]; exact ⟨⟨ho.grp, ho.obj⟩, ho.prio, fun x hx => ho.by_ x (List.mem_of_mem_take hx), by show (o.data.take 2100).length ≤ 2100; rw [List.length_take]; omega⟩)
  obtain ⟨W, hW⟩ : ∃ W, W = w.alloc (.cells (ovC o oA oc) 27) := ⟨_, rfl⟩
  have bw : Below w.heap.size w W := by rw [hW]; exact (Below.refl _ _).alloc (Nat.le_refl _) _
  have kw : Blk W w.heap.size 27 (ovC o oA oc) := by rw [hW]; exact Blk.new _ _ _
  obtain ⟨gm, hgm⟩ : ∃ g, g = w.heap.size := ⟨_, rfl⟩
  have AW := Lib.hid (awake16_any W (ht.below bw))
  have FW := Lib.hid (fun W' (hb : Below W.heap.size W W') => (fewO_any o oA oc W' ((ho.sl.below bw).below hb)).mono fun r w' (q : FewO W' w' o r) => (show ∃ A c, r = .returned (.agg (ovC O A c)) ∧ Own w' W'.heap.size A c O.data ∧ Below W'.heap.size W' w' from by rw [hO]; obtain ⟨A, c, h1, h2⟩ := q.ex; exact ⟨A, c, h1, h2, q.bel⟩))
  have CC := Lib.hid (fun W' (hb : Below W.heap.size W W') => cut_any A c p 300 W' ((hr.below bw).below hb) (by omega) hc (by decide) (by decide))
  have HT := Lib.hid ht
  have BW := Lib.hid bw
  have HG := Lib.hid hgm
  have HW := Lib.hid hW
  rw [← hgm] at kw
  have K0 := Lib.hid kw
  obtain ⟨grp, obj, prio, gram, data⟩ := o
  rw [ovC_lit] at hW K0 ⊢
  simp only at hW K0 ⊢
  have HW2 := Lib.hid hW
  clear hl hO hW bw kw hgm ht ho hr hb hc hm hn wa HW
  go_enter Tryd.func3, Tryd.ntmps3
  go_upto_region 1 with (fail)
  rw [← HW2.out, ← HG.out]
  go_wp2_with fail
  refine AW.out.mono ?_
  rintro e w1 ⟨rfl, b1⟩
  have B1 := Lib.hid b1
  have k1 := K0.out.below b1 K0.out.lt
  have K1 := Lib.hid k1
  have d0 := k1.cell 0
  have d1 := k1.cell 1
  have d2 := k1.cell 2
  have d3 := k1.cell 3
  have d4 := k1.cell 4
  simp only [List.getElem?_toArray, List.getElem?_cons_zero, List.getElem?_cons_succ] at d0 d1 d2 d3 d4
  have zd := k1.lt
  have F1 := Lib.hid (FW.out w1 b1)
  clear b1 k1 AW FW HW2 K0
  go_wp2_with fail
  refine F1.out.mono ?_
  rintro e w2 ⟨A2, c2, rfl, o2, b2⟩
  have B2 := Lib.hid (B1.out.trans (b2.mono B1.out.size))
  have K2 := Lib.hid (K1.out.below b2 K1.out.lt)
  have O2 := Lib.hid o2
  have C2 := Lib.hid (CC.out w2 B2.out)
  clear d0 d1 d2 d3 d4 zd b2 o2 F1 CC K1 B1
  go_wp2_with fail
  refine C2.out.mono ?_
  rintro e w3 ⟨A3, c3, rfl, o3, b3⟩
  rw [← HL.out] at o3 ⊢
  have B3 := Lib.hid (B2.out.trans (b3.mono B2.out.size))
  have K3 := Lib.hid (K2.out.below b3 K2.out.lt)
  have O3 := Lib.hid (O2.out.below b3)
  have P3 := Lib.hid o3
  obtain ⟨OC, hOC⟩ : ∃ OC, OC = ovC O A2 c2 := ⟨_, rfl⟩
  have HOC := Lib.hid hOC
  have HO1 := Lib.hid (show OC.all (·.oneCell') = true by rw [hOC]; simp [ovC, Value.oneCell'])
  have HAG := Lib.hid (show Value.agg (ovC O A2 c2) = .agg OC by rw [hOC])
  clear hOC b3 o3 C2 B2 K2 O2 HL
  go_upto_region 4 with (refine wpList_store_row rfl 27 (.tmp 4) (.tmp 22) rfl gm OC rfl HAG.out 27 _ K3.out (by rw [HOC.out]; exact info_obj) (by rw [HOC.out]; rfl) HO1.out ?_)
  have gs : w3.grownBy (w3.setRow gm OC) (some gm) := only_setRowI _ _ _
  obtain ⟨w4, hw4⟩ : ∃ w4, w4 = w3.setRow gm OC := ⟨_, rfl⟩
  have K4 := Lib.hid (show Blk w4 gm 27 OC by rw [hw4]; exact setRowI K3.out OC)
  rw [← hw4] at gs ⊢
  have h8 : ∀ k cur, Blk w3 k 5 cur → some gm ≠ some k := fun k cur hb e => by injection e with e; exact Blk.ne_ K3.out hb (by decide) e
  have O4 := Lib.hid (O3.out.grown gs h8)
  have P4 := Lib.hid (P3.out.grown gs h8)
  have BB4 := Lib.hid (show Below w.heap.size w w4 from
    have b := BW.out.trans (B3.out.mono BW.out.size)
    ⟨gs.os.trans b.os, gs.tape.trans b.tape, gs.output.trans b.output, Nat.le_trans b.size gs.size, fun i hi => (gs.block i (by have := b.size; omega) (fun e => by injection e with e; have := HG.out; omega)).trans (b.block i hi)⟩)
  have HMZ := Lib.hid (show OC = #[.int .u64 O.grp, .int .u64 O.obj, .int .u8 O.prio, .bool O.gram, .slice A2 O.data.length c2] by rw [HOC.out]; rfl)
  have CP := Lib.hid (copy_any A3 c3 l w4 (Rd.of_own P4.out) (by omega))
  clear gs hw4 h8 K3 O3 P3 B3 HAG HO1
  go_wp2_with fail
  refine CP.out.mono ?_
  rintro e w5 ⟨A5, c5, rfl, o5, b5⟩
  have O5 := Lib.hid o5
  have BB5 := Lib.hid b5
  have hz5 := b5.size
  obtain ⟨X, hX⟩ : ∃ X, X = l ++ [165] := ⟨_, rfl⟩
  have HX := Lib.hid hX
  have hXl : X.length = l.length + 1 := by rw [hX]; simp
  have HXL := Lib.hid hXl
  have hbk : ∀ c w, (c : Nat) ≥ l.length → ∀ (A : Option Addr), (Instr.slice 25 (.slice A X.length c) none (some (.int .i64 (l.length : Int))) none).run Tryd.prog w = .ok (.slice A l.length c) w := by
    intro c w hc A
    have := slice_backI A c X X.length l.length .i64 hc (by omega) w
    rw [this, hX]
    simp
  have HBK := Lib.hid hbk
  clear o5 b5 CP hX hXl hbk
  go_wp2_with (at_builtin; go_must (refine wpList_appI rfl (.tmp 26) (.tmp 27) rfl w4.heap.size (l := l) (news := [165]) X HX.out rfl rfl (O5.out.below ((Below.refl _ _).alloc (Nat.le_refl _) _)) (Rd.of_own (own_lit1I w5 165 (Nat.le_refl _))) (by simp; omega) (by simp; omega) ?_); intro A6 c6 w6 o6 g6 b6; have O6 := Lib.hid o6; have BB6 := Lib.hid b6; have hbk := HBK.out c6; have hcap := o6.cap.1; have hXl := HXL.out; have hbk2 := fun w => hbk w (by omega) A6; clear o6 g6 b6 hbk hcap hXl)
  have b46 : Below w4.heap.size w4 w6 := (BB5.out.trans ((Below.refl _ _).alloc BB5.out.size _)).trans BB6.out
  have BB := Lib.hid (BB4.out.trans (b46.mono BB4.out.size))
  have o6 := O6.out
  have r6 := Rd.of_own o6
  have hcap := o6.cap
  have hXl := HXL.out
  have q6 : Sl w6 A6 c6 l := ⟨by have := r6.upto (k := l.length) (by omega); rw [HX.out] at this; simpa using this, by omega, (Sl.of_own o6).max, (Sl.of_own o6).nil⟩
  obtain ⟨g, hA6, _, hgb⟩ := o6.form (by omega)
  subst hA6
  have hlast : w6.cell? ⟨g, l.length, none⟩ = some (.int .u8 165) := by
    have := r6.cell (j := l.length) (x := 165) (by rw [HX.out]; simp)
    simpa [ovC] using this
  have RD := Lib.hid (ReadGram_any (some ⟨g, 0, none⟩) c6 l w6 q6 HLB.out (by omega))
  have ST6 := Lib.hid (show GrS w6 gm OC g c6 l A3 c3 A2 O.data from ⟨K4.out.below b46 K4.out.lt, q6, hlast, hgb, OwnE.below ⟨_, P4.out⟩ b46, ⟨c2, OwnE.below ⟨_, O4.out⟩ b46⟩⟩)
  have HC6 := Lib.hid (show l.length + 1 ≤ c6 by omega)
  clear b46 o6 r6 hcap q6 hlast hgb BB5 BB6 O5 O6 hz5 BB4 hXl K4 O4 P4 HBK
  refine RD.out.mono ?_
  rintro e w7 h7
  have a7 := h7.ans
  obtain ⟨A7, c7, rfl, u7⟩ := a7.ex
  obtain ⟨Z, hZ⟩ : ∃ Z, Z = gO l := ⟨_, rfl⟩
  obtain ⟨ZA, hZA⟩ : ∃ z, z = gA l := ⟨_, rfl⟩
  obtain ⟨ZE, hZE⟩ : ∃ z, z = gE l := ⟨_, rfl⟩
  have HZB := Lib.hid (show Bytes Z.data ∧ Z.data.length ≤ 2048 by rw [hZ]; exact gO_by HLB.out)
  rw [← hZ] at u7
  rw [← hZ, ← hZA, ← hZE, ovC_lit]
  obtain ⟨w8, hw8⟩ : ∃ w8, w8 = w7.alloc (.cells #[.int .u64 Z.grp, .int .u64 Z.obj, .int .u8 Z.prio, .bool Z.gram, .slice A7 Z.data.length c7] 27) := ⟨_, rfl⟩
  have b8 : Below w7.heap.size w7 w8 := by rw [hw8]; exact (Below.refl _ _).alloc (Nat.le_refl _) _
  have b68 := a7.bel.trans (b8.mono a7.bel.size)
  have ST8 := Lib.hid (ST6.out.below b68)
  have BB8 := Lib.hid (BB.out.trans (b68.mono BB.out.size))
  have K8 := Lib.hid (show Blk w8 w7.heap.size 27 #[.int .u64 Z.grp, .int .u64 Z.obj, .int .u8 Z.prio, .bool Z.gram, .slice A7 Z.data.length c7] by rw [hw8]; exact Blk.new _ _ _)
  have U8 := Lib.hid (OwnE.below ⟨_, u7⟩ b8)
  have RR := Lib.hid (refReadGram_any A3 c3 l w8 ST8.out.p.sl HLB.out (by omega) ST8.out.p.lt)
  have HW8 := Lib.hid hw8
  have HZ := Lib.hid hZ
  have HZA := Lib.hid hZA
  have HZE := Lib.hid hZE
  clear hw8 b8 b68 u7 a7 h7 RD BB ST6 hZ hZA hZE
  go_upto_region 6 with (fail)
  rw [← HW8.out]
  go_wp2_with fail
  refine RR.out.mono ?_
  rintro e w9 h9
  have a9 := h9.ans
  obtain ⟨A9, c9, rfl, u9⟩ := a9.ex
  rw [← HZ.out] at u9
  rw [← HZ.out, ← HZA.out, ← HZE.out, ovC_lit]
  obtain ⟨w10, hw10⟩ : ∃ v, v = w9.alloc (.cells #[.int .u64 Z.grp, .int .u64 Z.obj, .int .u8 Z.prio, .bool Z.gram, .slice A9 Z.data.length c9] 27) := ⟨_, rfl⟩
  have b10 : Below w9.heap.size w9 w10 := by rw [hw10]; exact (Below.refl _ _).alloc (Nat.le_refl _) _
  have b810 := a9.bel.trans (b10.mono a9.bel.size)
  have ST10 := Lib.hid (ST8.out.below b810)
  have BB10 := Lib.hid (BB8.out.trans (b810.mono BB8.out.size))
  have K10 := Lib.hid (K8.out.below b810 K8.out.lt)
  have L10 := Lib.hid (show Blk w10 w9.heap.size 27 #[.int .u64 Z.grp, .int .u64 Z.obj, .int .u8 Z.prio, .bool Z.gram, .slice A9 Z.data.length c9] by rw [hw10]; exact Blk.new _ _ _)
  have U10 := Lib.hid (U8.out.below b810)
  have V10 := Lib.hid (OwnE.below ⟨_, u9⟩ b10)
  have HW10 := Lib.hid hw10
  clear hw10 b10 b810 u9 a9 h9 RR ST8 BB8 K8 U8 HW8
  go_upto_region 7 with (fail)
  rw [← HW10.out]
  have ka := K10.out
  have kb := L10.out
  have d0 := ka.cell 0
  have d1 := ka.cell 1
  have d2 := ka.cell 2
  have d3 := ka.cell 3
  have d4 := ka.cell 4
  simp only [List.getElem?_toArray, List.getElem?_cons_zero, List.getElem?_cons_succ] at d0 d1 d2 d3 d4
  have f0 := kb.cell 0
  have f1 := kb.cell 1
  have f2 := kb.cell 2
  have f3 := kb.cell 3
  have f4 := kb.cell 4
  simp only [List.getElem?_toArray, List.getElem?_cons_zero, List.getElem?_cons_succ] at f0 f1 f2 f3 f4
  have za := ka.lt
  have zb := kb.lt
  obtain ⟨w12, hw12⟩ : ∃ v, v = (w10.alloc (.cells #[.int .u64 Z.grp, .int .u64 Z.obj, .int .u8 Z.prio, .bool Z.gram, .slice A7 Z.data.length c7] 27)).alloc (.cells #[.int .u64 Z.grp, .int .u64 Z.obj, .int .u8 Z.prio, .bool Z.gram, .slice A9 Z.data.length c9] 27) := ⟨_, rfl⟩
  have b12 : Below w10.heap.size w10 w12 := by rw [hw12]; exact ((Below.refl _ _).alloc (Nat.le_refl _) _).alloc (by simp) _
  have x1 : Blk w12 w10.heap.size 27 (ovC Z A7 c7) := by rw [hw12]; exact (Blk.new _ _ _).alloc _
  have x2 : Blk w12 (w10.heap.size + 1) 27 (ovC Z A9 c9) := by
    rw [hw12]
    have := Blk.new (w10.alloc (.cells #[.int .u64 Z.grp, .int .u64 Z.obj, .int .u8 Z.prio, .bool Z.gram, .slice A7 Z.data.length c7] 27)) 27 (ovC Z A9 c9)
    simpa [ovC] using this
  have CS := Lib.hid (same_one x1 x2 (U10.out.below b12).rd (V10.out.below b12).rd HZB.out.1)
  have ST12 := Lib.hid (ST10.out.below b12)
  have BB12 := Lib.hid (BB10.out.trans (b12.mono BB10.out.size))
  have HW12 := Lib.hid hw12
  have hZA2 : (ZA != ZA) = false := by simp
  have hZE2 : (ZE != ZE) = false := by simp
  clear ka kb hw12 b12 x1 x2 ST10 BB10 HW10 K10 L10 U10 V10
  go_wp2_with fail
  rw [← HW12.out]
  refine CS.out.mono ?_
  rintro e w13 ⟨rfl, b13⟩
  have ST13 := Lib.hid (ST12.out.below b13)
  have BB13 := Lib.hid (BB12.out.trans (b13.mono BB12.out.size))
  have SQ := same_any (some ⟨g, 0, none⟩) A3 c6 c3 l l w13 ST13.out.q.rd ST13.out.p.rd HLB.out HLB.out
  rw [show sameB l l = true by simp [sameB]] at SQ
  have SQ2 := Lib.hid SQ
  clear b13 CS SQ ST12 BB12 HW12 d0 d1 d2 d3 d4 f0 f1 f2 f3 f4 za zb
  go_wp2_with fail
  refine SQ2.out.mono ?_
  rintro e w14 ⟨rfl, hh⟩
  subst hh
  have hlast := ST13.out.last
  have hc6 := HC6.out
  have ko := ST13.out.box
  rw [HMZ.out] at ko
  have d0 := ko.cell 0
  have d1 := ko.cell 1
  have d2 := ko.cell 2
  have d3 := ko.cell 3
  have d4 := ko.cell 4
  simp only [List.getElem?_toArray, List.getElem?_cons_zero, List.getElem?_cons_succ] at d0 d1 d2 d3 d4
  have zo := ko.lt
  have GR := Lib.hid (Gram_any al O A2 c2 w13 (HT.out.below BB13.out) ST13.out.o (by have := HOB.out.2.2.2; omega) ⟨hal, HOB.out.1⟩)
  rw [ovC_lit] at GR
  clear ko SQ2
  go_wp2_with fail
  refine GR.out.mono ?_
  rintro e w15 h15
  have BB15 := Lib.hid (BB13.out.trans (h15.bel.mono BB13.out.size))
  have ST15 := Lib.hid (ST13.out.below h15.bel)
  clear hlast d0 d1 d2 d3 d4 zo GR
  cases hg : gramOk al O with
  | false =>
    have hr := h15.no hg
    obtain ⟨E, hE, hE0⟩ : ∃ E : Int, E = (if 2048 < O.data.length then 3 else 4) ∧ (E != 0) = true := ⟨_, rfl, by split <;> rfl⟩
    rw [← hE] at hr
    subst hr
    clear h15 hE hg
    go_wp2_with fail
    go_ret
    exact ⟨rfl, BB15.out⟩
  | true =>
    obtain ⟨A16, c16, rfl, u16⟩ := h15.ok hg
    have HB := gramB_by hg ⟨hal, HOB.out.1⟩ HOB.out.2.1 HOB.out.2.2.1
    have HPB := Lib.hid (prG_back hg ⟨hal, HOB.out.1⟩)
    obtain ⟨GB, hGB⟩ : ∃ z, z = gramB al O := ⟨_, rfl⟩
    rw [← hGB] at u16 HB HPB ⊢
    have RD := Lib.hid (ReadGram_any A16 c16 GB w15 (Sl.of_own u16) HB.1 (by have := HB.2; omega))
    clear h15 hg hGB u16 HB
    go_wp2_with fail
    refine RD.out.mono ?_
    rintro e w17 h17
    obtain ⟨A17, c17, rfl, u17⟩ := h17.ok al O HPB.out
    rw [ovC_lit]
    obtain ⟨w18, hw18⟩ : ∃ v, v = w17.alloc (.cells #[.int .u64 O.grp, .int .u64 O.obj, .int .u8 O.prio, .bool O.gram, .slice A17 O.data.length c17] 27) := ⟨_, rfl⟩
    have b18 : Below w17.heap.size w17 w18 := by rw [hw18]; exact (Below.refl _ _).alloc (Nat.le_refl _) _
    have b158 := h17.bel.trans (b18.mono h17.bel.size)
    have ST18 := Lib.hid (ST15.out.below b158)
    have BB18 := Lib.hid (BB15.out.trans (b158.mono BB15.out.size))
    have K18 := Lib.hid (show Blk w18 w17.heap.size 27 #[.int .u64 O.grp, .int .u64 O.obj, .int .u8 O.prio, .bool O.gram, .slice A17 O.data.length c17] by rw [hw18]; exact Blk.new _ _ _)
    have U18 := Lib.hid (OwnE.below ⟨_, u17⟩ b18)
    have HW18 := Lib.hid hw18
    clear hw18 b18 b158 u17 h17 RD ST15 BB15
    go_upto_region 13 with (fail)
    rw [← HW18.out]
    have ka := K18.out
    have kb := ST18.out.box
    rw [HMZ.out] at kb
    have d0 := ka.cell 0
    have d1 := ka.cell 1
    have d2 := ka.cell 2
    have d3 := ka.cell 3
    have d4 := ka.cell 4
    simp only [List.getElem?_toArray, List.getElem?_cons_zero, List.getElem?_cons_succ] at d0 d1 d2 d3 d4
    have f0 := kb.cell 0
    have f1 := kb.cell 1
    have f2 := kb.cell 2
    have f3 := kb.cell 3
    have f4 := kb.cell 4
    simp only [List.getElem?_toArray, List.getElem?_cons_zero, List.getElem?_cons_succ] at f0 f1 f2 f3 f4
    have za := ka.lt
    have zb := kb.lt
    obtain ⟨w20, hw20⟩ : ∃ v, v = (w18.alloc (.cells #[.int .u64 O.grp, .int .u64 O.obj, .int .u8 O.prio, .bool O.gram, .slice A17 O.data.length c17] 27)).alloc (.cells #[.int .u64 O.grp, .int .u64 O.obj, .int .u8 O.prio, .bool O.gram, .slice A2 O.data.length c2] 27) := ⟨_, rfl⟩
    have b20 : Below w18.heap.size w18 w20 := by rw [hw20]; exact ((Below.refl _ _).alloc (Nat.le_refl _) _).alloc (by simp) _
    have x1 : Blk w20 w18.heap.size 27 (ovC O A17 c17) := by rw [hw20]; exact (Blk.new _ _ _).alloc _
    have x2 : Blk w20 (w18.heap.size + 1) 27 (ovC O A2 c2) := by
      rw [hw20]
      have := Blk.new (w18.alloc (.cells #[.int .u64 O.grp, .int .u64 O.obj, .int .u8 O.prio, .bool O.gram, .slice A17 O.data.length c17] 27)) 27 (ovC O A2 c2)
      simpa [ovC] using this
    have CS := Lib.hid (same_one x1 x2 (U18.out.below b20).rd (Rd.below ST18.out.o b20) HOB.out.2.2.1)
    have BB20 := Lib.hid (BB18.out.trans (b20.mono BB18.out.size))
    have HW20 := Lib.hid hw20
    have hal2 : (al == al) = true := by simp
    clear ka kb hw20 b20 x1 x2 ST18 BB18 HW18 K18 U18
    go_wp2_with fail
    rw [← HW20.out]
    refine CS.out.mono ?_
    rintro e w21 ⟨rfl, b21⟩
    have BB21 := Lib.hid (BB20.out.trans (b21.mono BB20.out.size))
    clear b21 CS HW20
    go_wp2_with fail
    go_ret
    exact ⟨rfl, BB21.out⟩
end Go.Proofs.YtdgfhlkgljlhaaaDoor
