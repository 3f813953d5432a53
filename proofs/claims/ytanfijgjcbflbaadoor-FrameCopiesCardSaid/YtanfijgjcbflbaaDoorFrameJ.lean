/-
  FrameCopies.
-/
import Derived.Test.YtanfijgjcbflbaaDoorFrameI
import Derived.Test.YtanfijgjcbflbaaDoorFrameE
namespace Go.Proofs.YtanfijgjcbflbaaDoor
open Go.RowKit
set_option linter.unusedVariables false

section
variable {W : World} {N g c d i : Nat} {A B : Option Addr} {cur : Array Value}
theorem U8_set (l : List Int) (i : Nat) (y : Int) : U8 (l.set i y) = (U8 l).set i (.int .u8 y) := by simp [U8, List.map_set]
/-- A row of bytes stays one where a byte is written anywhere. -/
theorem own_any {b : List Int} (h : Own W N B d b) (k : Blk W g 5 cur) (y : Int) : ∃ b', b'.length = b.length ∧ Own (W.setCell ⟨g, i, none⟩ (.int .u8 y)) N B d b' := by
  obtain ⟨h1, h2⟩ := h
  rcases h2 with ⟨h2, h3⟩ | ⟨g', cap, cur', hv, hg, hh, h3, h4, h5, h6⟩
  · exact ⟨b, rfl, h1, .inl ⟨h2, h3⟩⟩
  · by_cases e : g' = g
    · subst e
      refine ⟨b.set i y, by simp, ?_⟩
      unfold Own
      rw [U8_set, List.length_set]
      refine ⟨by simpa using h1, .inr ⟨g', cap, cur'.setIfInBounds i (.int .u8 y), hv, hg, Blk.set_ hh i _, h3, h4, by simpa using h5, ?_⟩⟩
      rw [Array.toList_setIfInBounds, List.take_set, h6]
    · exact ⟨b, rfl, h1, .inr ⟨g', cap, cur', hv, hg, Blk.far hh (p := ⟨g, i, none⟩) e _, h3, h4, h5, h6⟩⟩
theorem own_cell {a : List Int} (h : Own W N A c a) (hi : i < a.length) : ∃ g x cur, A = some ⟨g, 0, none⟩ ∧ N ≤ g ∧ W.cell? ⟨g, i, none⟩ = some (.int .u8 x) ∧ W.frozen? ⟨g, i, none⟩ = false ∧ Blk W g 5 cur := by
  obtain ⟨g, hA, hN, _⟩ := h.form (by omega)
  subst hA
  have hr := Rd.of_own h
  rcases h.2 with ⟨h2, h3⟩ | ⟨g', cap, cur', hv, hg, hh, _⟩
  · omega
  · injection hv with e1
    injection e1 with e1
    injection e1 with e1
    subst e1
    exact ⟨g, a[i], cur', rfl, hN, by simpa using hr.cell (List.getElem?_eq_getElem hi), Blk.frozen hh i, hh⟩
theorem RgV_set : ∀ (l : List (Int × Int)) (i : Nat) (p : Int × Int) (y : Int), l[i]? = some p → RgV (l.set i (p.1, y)) = (RgV l).set (i * 2 + 1) (.int .u64 y)
  | [], i, p, y, h => by simp at h
  | q :: l, 0, p, y, h => by simp at h; subst h; rfl
  | q :: l, i + 1, p, y, h => by
    rw [List.set_cons_succ, RgV_cons, RgV_cons, RgV_set l i p y (by simpa using h), show (i + 1) * 2 + 1 = i * 2 + 1 + 1 + 1 by omega]
    rfl
theorem ownG_put {l : List (Int × Int)} (h : OwnG W N A c l) (hi : i < l.length) : ∃ g x cur, A = some ⟨g, 0, none⟩ ∧ N ≤ g ∧ W.cell? ⟨g, i * 2 + 1, none⟩ = some (.int .u64 x) ∧ W.frozen? ⟨g, i * 2 + 1, none⟩ = false ∧ Blk W g 31 cur ∧
    ∀ y, ∃ l', l'.length = l.length ∧ OwnG (W.setCell ⟨g, i * 2 + 1, none⟩ (.int .u64 y)) N A c l' := by
  obtain ⟨b, off, p, hA, hb, hx, q0, q1⟩ := h.reads.at_ hi
  obtain ⟨h1, h2⟩ := h
  rcases h2 with ⟨h2, h3⟩ | ⟨g', cap, cur', hv, hg, hh, h3, h4, h5, h6⟩
  · omega
  · subst hA
    injection hv with e1 e2 e3
    injection e1 with e1
    injection e1 with e1 e4
    subst e1 e4
    simp only [Nat.zero_add] at q0 q1
    refine ⟨b, p.2, cur', rfl, hg, q1, Blk.frozen hh _, hh, fun y => ⟨l.set i (p.1, y), by simp, ?_⟩⟩
    unfold OwnG OwnV
    rw [RgV_set l i p y hx, List.length_set]
    refine ⟨by simpa using h1, .inr ⟨b, cap, cur'.setIfInBounds (i * 2 + 1) (.int .u64 y), by rw [e3], hg, Blk.set_ hh _ _, h3, h4, by simpa using h5, ?_⟩⟩
    rw [Array.toList_setIfInBounds, List.take_set, h6]
end
theorem OwnG.nil_ {w : World} {base c : Nat} {A : Option Addr} {l : List (Int × Int)} (h : OwnG w base A c l) : A = none → l = [] ∧ c = 0 := by
  rintro rfl
  rcases OwnV.row_is h with ⟨_, h0, hc, _⟩ | ⟨g, cur, e, _⟩
  · exact ⟨List.eq_nil_of_length_eq_zero h0, hc⟩
  · cases e
theorem OwnG.sl {w : World} {base c : Nat} {A : Option Addr} {l : List (Int × Int)} (h : OwnG w base A c l) (ok : ∀ p ∈ l, PairOk p) : SlG w A c l := by
  refine ⟨h.reads, ok, ?_, ?_, fun e => (h.nil_ e).2⟩
  · rcases OwnV.row_is h with ⟨_, h0, hc, _⟩ | ⟨g, cur, e, _, _, _, hle⟩
    · omega
    · exact hle
  · rcases h.2 with ⟨h2, _⟩ | ⟨g, cap, cur, hv, _, _, _, h4, _⟩
    · injection h2 with _ _ e; omega
    · injection hv with _ _ e; unfold maxLen at h4; omega
theorem Own.nil_ {w : World} {base c : Nat} {A : Option Addr} {l : List Int} (h : Own w base A c l) : A = none → l = [] ∧ c = 0 := fun e => by
  have s := Sl.of_own h
  have := s.nil e
  have := s.le
  exact ⟨List.eq_nil_of_length_eq_zero (by omega), s.nil e⟩

def CS (w5 : World) (N g4 : Nat) (F4 : Array Value) (A2 : Option Addr) (c2 na : Nat) (B2 : Option Addr) (e2 nb : Nat) (R2 : Option Addr) (r2 nl : Nat) (W : World) : Prop :=
  (∃ a, a.length = na ∧ Own W N A2 c2 a) ∧ (∃ b, b.length = nb ∧ Own W N B2 e2 b) ∧ (∃ l, l.length = nl ∧ OwnG W N R2 r2 l) ∧ Blk W g4 26 F4 ∧ Below N w5 W
section
variable {w5 W : World} {N g4 : Nat} {F4 : Array Value} {A2 : Option Addr} {c2 na : Nat} {B2 : Option Addr} {e2 nb : Nat} {R2 : Option Addr} {r2 nl : Nat}
theorem CS.u8 (h : CS w5 N g4 F4 A2 c2 na B2 e2 nb R2 r2 nl W) (hN : N ≤ w5.heap.size) {g i : Nat} {cur : Array Value} (k : Blk W g 5 cur) (hg : N ≤ g) (y : Int) : CS w5 N g4 F4 A2 c2 na B2 e2 nb R2 r2 nl (W.setCell ⟨g, i, none⟩ (.int .u8 y)) := by
  obtain ⟨⟨a, ha, oa⟩, ⟨b, hb, ob⟩, ⟨l, hl, ol⟩, K, BL⟩ := h
  obtain ⟨a', ha', oa'⟩ := own_any (i := i) oa k y
  obtain ⟨b', hb', ob'⟩ := own_any (i := i) ob k y
  refine ⟨⟨a', ha'.trans ha, oa'⟩, ⟨b', hb'.trans hb, ob'⟩, ⟨l, hl, ownG_gs ol k (by decide) gset⟩, ?_, below_gs BL gset hg (Nat.le_trans hN BL.size)⟩
  exact K.far (p := ⟨g, i, none⟩) (Blk.ne_ K k (by decide)) _
theorem CS.rg (h : CS w5 N g4 F4 A2 c2 na B2 e2 nb R2 r2 nl W) (hN : N ≤ w5.heap.size) {i : Nat} (hi : i < nl) : ∃ g x, R2 = some ⟨g, 0, none⟩ ∧ W.cell? ⟨g, i * 2 + 1, none⟩ = some (.int .u64 x) ∧ W.frozen? ⟨g, i * 2 + 1, none⟩ = false ∧ ∀ y, CS w5 N g4 F4 A2 c2 na B2 e2 nb R2 r2 nl (W.setCell ⟨g, i * 2 + 1, none⟩ (.int .u64 y)) := by
  obtain ⟨⟨a, ha, oa⟩, ⟨b, hb, ob⟩, ⟨l, hl, ol⟩, K, BL⟩ := h
  obtain ⟨g, x, cur, e, hg, hc, hf, k, hput⟩ := ownG_put ol (i := i) (by omega)
  refine ⟨g, x, e, hc, hf, fun y => ?_⟩
  obtain ⟨l', hl', ol'⟩ := hput y
  refine ⟨⟨a, ha, own_gs oa k (by decide) gset⟩, ⟨b, hb, own_gs ob k (by decide) gset⟩, ⟨l', hl'.trans hl, ol'⟩, ?_, below_gs BL gset hg (Nat.le_trans hN BL.size)⟩
  exact K.far (p := ⟨g, i * 2 + 1, none⟩) (Blk.ne_ K k (by decide)) _
theorem CS.ca (h : CS w5 N g4 F4 A2 c2 na B2 e2 nb R2 r2 nl W) {i : Nat} (hi : i < na) : ∃ g x cur, A2 = some ⟨g, 0, none⟩ ∧ N ≤ g ∧ W.cell? ⟨g, i, none⟩ = some (.int .u8 x) ∧ W.frozen? ⟨g, i, none⟩ = false ∧ Blk W g 5 cur := by
  obtain ⟨⟨a, ha, oa⟩, _⟩ := h
  exact own_cell oa (by omega)
theorem CS.cb (h : CS w5 N g4 F4 A2 c2 na B2 e2 nb R2 r2 nl W) {i : Nat} (hi : i < nb) : ∃ g x cur, B2 = some ⟨g, 0, none⟩ ∧ N ≤ g ∧ W.cell? ⟨g, i, none⟩ = some (.int .u8 x) ∧ W.frozen? ⟨g, i, none⟩ = false ∧ Blk W g 5 cur := by
  obtain ⟨_, ⟨b, hb, ob⟩, _⟩ := h
  exact own_cell ob (by omega)
end
set_option maxRecDepth 100000 in
set_option maxHeartbeats 6400000 in
theorem copies_walk (k id off n cd : Int) (fin : Bool) (A : Option Addr) (ca : Nat) (a : List Int) (B : Option Addr) (cb : Nat) (b : List Int) (R : Option Addr) (cr : Nat) (l : List (Int × Int)) (w : World) (ht : Tab w)
    (hs : wf64 k ∧ wf64 id ∧ wf64 off ∧ wf64 n ∧ wf64 cd) (ha : Sl w A ca a ∧ Bytes a) (hb : Sl w B cb b ∧ Bytes b) (hl : SlG w R cr l) :
    Calls Tryd.prog 3 #[.agg #[.int .u64 k, .int .u64 id, .int .u64 off, .int .u64 n, .int .u64 cd, .bool fin, .slice A a.length ca, .slice B b.length cb, .slice R l.length cr]] w fun r w' => r = .returned (.bool true) ∧ Below w.heap.size w w' := by
  obtain ⟨hA, hAB⟩ := ha
  obtain ⟨hB, hBB⟩ := hb
  have HA := Lib.hid hA
  have HB := Lib.hid hB
  have HL := Lib.hid hl
  have HT := Lib.hid ht
  have hAB2 : Bytes (a.take 1300) := hAB.take _
  have hBB2 : Bytes (b.take 40) := hBB.take _
  have hlok : ∀ p ∈ l.take 30, PairOk p := fun p hp => hl.ok p (List.mem_of_mem_take hp)
  obtain ⟨a2, ha2⟩ : ∃ x, x = a.take 1300 := ⟨_, rfl⟩
  obtain ⟨b2, hb2⟩ : ∃ x, x = b.take 40 := ⟨_, rfl⟩
  obtain ⟨l2, hl2⟩ : ∃ x, x = l.take 30 := ⟨_, rfl⟩
  rw [← ha2] at hAB2
  rw [← hb2] at hBB2
  rw [← hl2] at hlok
  have C1 := fun W (hx : Below w.heap.size w W) => fewF_any k id off n cd fin A a ca B b cb R l cr W (HA.out.below hx) (HB.out.below hx) (HL.out.below hx)
  rw [← ha2, ← hb2, ← hl2] at C1
  have HC1 := Lib.hid C1
  have la : a2.length ≤ 1300 := by rw [ha2, List.length_take]; omega
  have lb : b2.length ≤ 40 := by rw [hb2, List.length_take]; omega
  have ll : l2.length ≤ 30 := by rw [hl2, List.length_take]; omega
  have ta : a2.take 1300 = a2 := List.take_of_length_le la
  have tb : b2.take 40 = b2 := List.take_of_length_le lb
  have tl : l2.take 30 = l2 := List.take_of_length_le ll
  have HTT := Lib.hid (And.intro ta (And.intro tb tl))
  have HBY := Lib.hid (And.intro hAB2 (And.intro hBB2 hlok))
  clear hA hB hl ht hAB hBB hAB2 hBB2 hlok ha2 hb2 hl2 C1 ta tb tl hs
  obtain ⟨g1, hg1⟩ : ∃ g, g = w.heap.size := ⟨_, rfl⟩
  have KB0 : Blk (w.alloc (.cells #[.int .u64 k, .int .u64 id, .int .u64 off, .int .u64 n, .int .u64 cd, .bool fin, .slice A a.length ca, .slice B b.length cb, .slice R l.length cr] 26)) g1 26 (FC k id off n cd fin A a.length ca B b.length cb R l.length cr) := by rw [hg1]; exact Blk.new w _ _
  have BL0 : Below w.heap.size w (w.alloc (.cells #[.int .u64 k, .int .u64 id, .int .u64 off, .int .u64 n, .int .u64 cd, .bool fin, .slice A a.length ca, .slice B b.length cb, .slice R l.length cr] 26)) := (Below.refl _ _).alloc (Nat.le_refl _) _
  go_enter Tryd.func3, Tryd.ntmps3
  go_wp2_with fail
  rw [show w.heap.size = g1 from hg1.symm]
  have hge1 : w.heap.size ≤ g1 := by omega
  clear hg1
  refine (awake5_any _ (HT.out.below BL0)).mono ?_
  rintro e w1 ⟨rfl, b1⟩
  have KB := KB0.below b1 KB0.lt
  have BL := BL0.trans (b1.mono BL0.size)
  clear KB0 BL0 b1
  have d0 := KB.cell 0
  have d1 := KB.cell 1
  have d2 := KB.cell 2
  have d3 := KB.cell 3
  have d4 := KB.cell 4
  have d5 := KB.cell 5
  have d6 := KB.cell 6
  have d7 := KB.cell 7
  have d8 := KB.cell 8
  simp only [FC] at d0 d1 d2 d3 d4 d5 d6 d7 d8
  have HKB := Lib.hid KB
  have HBL := Lib.hid BL
  have z1 := KB.lt
  clear KB BL
  go_wp2_with fail
  refine (HC1.out w1 HBL.out).mono ?_
  rintro e w2 ⟨A0, c0, B0, e0, R0, r0, rfl, o0, p0, q0, b2x⟩
  unfold FC
  have HK2 := Lib.hid (HKB.out.below b2x z1)
  have HB2 := Lib.hid (HBL.out.trans (b2x.mono HBL.out.size))
  have HO := Lib.hid (And.intro (Own.base_le' o0 HBL.out.size) (And.intro (Own.base_le' p0 HBL.out.size) (OwnG.base_le q0 HBL.out.size)))
  clear d0 d1 d2 d3 d4 d5 d6 d7 d8 o0 p0 q0 b2x HKB HBL HC1
  go_upto_region 4 with (refine wpList_store_row rfl 26 (.tmp 1) (.tmp 11) rfl g1 _ rfl rfl 26 _ HK2.out info_frame rfl (by simp [Value.oneCell']) ?_)
  have KB3 := Blk.setRowP (cs' := #[.int .u64 k, .int .u64 id, .int .u64 off, .int .u64 n, .int .u64 cd, .bool fin, .slice A0 a2.length c0, .slice B0 b2.length e0, .slice R0 l2.length r0]) HK2.out
  have o3 : Own (w2.setRow g1 #[.int .u64 k, .int .u64 id, .int .u64 off, .int .u64 n, .int .u64 cd, .bool fin, .slice A0 a2.length c0, .slice B0 b2.length e0, .slice R0 l2.length r0]) w.heap.size A0 c0 a2 := own_gs HO.out.1 HK2.out (by decide) grow_row
  have p3 : Own (w2.setRow g1 #[.int .u64 k, .int .u64 id, .int .u64 off, .int .u64 n, .int .u64 cd, .bool fin, .slice A0 a2.length c0, .slice B0 b2.length e0, .slice R0 l2.length r0]) w.heap.size B0 e0 b2 := own_gs HO.out.2.1 HK2.out (by decide) grow_row
  have q3 : OwnG (w2.setRow g1 #[.int .u64 k, .int .u64 id, .int .u64 off, .int .u64 n, .int .u64 cd, .bool fin, .slice A0 a2.length c0, .slice B0 b2.length e0, .slice R0 l2.length r0]) w.heap.size R0 r0 l2 := ownG_gs HO.out.2.2 HK2.out (by decide) grow_row
  have BL3 : Below w.heap.size w (w2.setRow g1 #[.int .u64 k, .int .u64 id, .int .u64 off, .int .u64 n, .int .u64 cd, .bool fin, .slice A0 a2.length c0, .slice B0 b2.length e0, .slice R0 l2.length r0]) := below_gs HB2.out grow_row hge1 HB2.out.size
  have KB : Blk (w2.setRow g1 #[.int .u64 k, .int .u64 id, .int .u64 off, .int .u64 n, .int .u64 cd, .bool fin, .slice A0 a2.length c0, .slice B0 b2.length e0, .slice R0 l2.length r0]) g1 26 (FC k id off n cd fin A0 a2.length c0 B0 b2.length e0 R0 l2.length r0) := KB3
  clear KB3 HK2 HO HB2 z1
  generalize w2.setRow g1 #[.int .u64 k, .int .u64 id, .int .u64 off, .int .u64 n, .int .u64 cd, .bool fin, .slice A0 a2.length c0, .slice B0 b2.length e0, .slice R0 l2.length r0] = w3 at KB o3 p3 q3 BL3 ⊢
  have d0 := KB.cell 0
  have d1 := KB.cell 1
  have d2 := KB.cell 2
  have d3 := KB.cell 3
  have d4 := KB.cell 4
  have d5 := KB.cell 5
  have d6 := KB.cell 6
  have d7 := KB.cell 7
  have d8 := KB.cell 8
  simp only [FC] at d0 d1 d2 d3 d4 d5 d6 d7 d8
  have C2 := fewF_any k id off n cd fin A0 a2 c0 B0 b2 e0 R0 l2 r0 w3 (Sl.of_own o3) (Sl.of_own p3) (q3.sl HBY.out.2.2)
  rw [HTT.out.1, HTT.out.2.1, HTT.out.2.2] at C2
  have HC2 := Lib.hid C2
  have HKB := Lib.hid KB
  have HB3 := Lib.hid BL3
  have HO := Lib.hid (And.intro o3 (And.intro p3 q3))
  have z1 := KB.lt
  clear C2 KB BL3 o3 p3 q3 HTT
  go_wp2_with fail
  refine HC2.out.mono ?_
  rintro e w4 ⟨A1, c1, B1, e1, R1, r1, rfl, o4, p4, q4, b4⟩
  unfold FC
  obtain ⟨g3, hg3⟩ : ∃ g, g = w4.heap.size := ⟨_, rfl⟩
  have ba : Below w4.heap.size w4 (w4.alloc (.cells #[.int .u64 k, .int .u64 id, .int .u64 off, .int .u64 n, .int .u64 cd, .bool fin, .slice A1 a2.length c1, .slice B1 b2.length e1, .slice R1 l2.length r1] 26)) := (Below.refl _ _).alloc (Nat.le_refl _) _
  have K3 : Blk (w4.alloc (.cells #[.int .u64 k, .int .u64 id, .int .u64 off, .int .u64 n, .int .u64 cd, .bool fin, .slice A1 a2.length c1, .slice B1 b2.length e1, .slice R1 l2.length r1] 26)) g3 26 (FC k id off n cd fin A1 a2.length c1 B1 b2.length e1 R1 l2.length r1) := by rw [hg3]; exact Blk.new w4 _ _
  have K1 := (HKB.out.below b4 z1).below ba (Nat.lt_of_lt_of_le z1 b4.size)
  have o5 := (Own.below HO.out.1 b4).below ba
  have p5 := (Own.below HO.out.2.1 b4).below ba
  have q5 := (OwnG.below HO.out.2.2 b4).below ba
  have o5' := o4.below ba
  have p5' := p4.below ba
  have q5' := q4.below ba
  have BL5 := (HB3.out.trans (b4.mono HB3.out.size)).trans (ba.mono (HB3.out.trans (b4.mono HB3.out.size)).size)
  clear d0 d1 d2 d3 d4 d5 d6 d7 d8 o4 p4 q4 HKB HB3 HO HC2 z1
  go_wp2_with fail
  rw [show w4.heap.size = g3 from hg3.symm]
  clear hg3 ba b4
  generalize (w4.alloc (.cells #[.int .u64 k, .int .u64 id, .int .u64 off, .int .u64 n, .int .u64 cd, .bool fin, .slice A1 a2.length c1, .slice B1 b2.length e1, .slice R1 l2.length r1] 26)) = w5 at K3 K1 o5 p5 q5 o5' p5' q5' BL5 ⊢
  refine (copyF_any k id off n cd fin A1 a2 c1 B1 b2 e1 R1 l2 r1 w5 (Rd.of_own o5') (Rd.of_own p5') q5'.reads (by omega) (by omega) (by omega) o5'.nil_ p5'.nil_ q5'.nil_).mono ?_
  rintro e w6 ⟨A2, c2, B2, e2, R2, r2, rfl, o6, p6, q6, b6⟩
  unfold FC
  have zz1 := K1.lt
  have zz3 := K3.lt
  have K16 := K1.below b6 zz1
  have zg1 : g1 < w6.heap.size := K16.lt
  have d0 := K16.cell 0
  have d1 := K16.cell 1
  have d2 := K16.cell 2
  have d3 := K16.cell 3
  have d4 := K16.cell 4
  have d5 := K16.cell 5
  have d6 := K16.cell 6
  have d7 := K16.cell 7
  have d8 := K16.cell 8
  simp only [FC] at d0 d1 d2 d3 d4 d5 d6 d7 d8
  obtain ⟨g4, hg4⟩ : ∃ g, g = w6.heap.size := ⟨_, rfl⟩
  have ba : Below w6.heap.size w6 (w6.alloc (.cells #[.int .u64 k, .int .u64 id, .int .u64 off, .int .u64 n, .int .u64 cd, .bool fin, .slice A2 a2.length c2, .slice B2 b2.length e2, .slice R2 l2.length r2] 26)) := (Below.refl _ _).alloc (Nat.le_refl _) _
  have K4 : Blk (w6.alloc (.cells #[.int .u64 k, .int .u64 id, .int .u64 off, .int .u64 n, .int .u64 cd, .bool fin, .slice A2 a2.length c2, .slice B2 b2.length e2, .slice R2 l2.length r2] 26)) g4 26 (FC k id off n cd fin A2 a2.length c2 B2 b2.length e2 R2 l2.length r2) := by rw [hg4]; exact Blk.new w6 _ _
  have o7 := o6.below ba
  have p7 := p6.below ba
  have q7 := q6.below ba
  have b7 := b6.trans (ba.mono b6.size)
  have HK1 := Lib.hid K1
  have HK3 := Lib.hid K3
  have HO5 := Lib.hid (And.intro o5 (And.intro p5 q5))
  have HO5' := Lib.hid (And.intro o5' (And.intro p5' q5'))
  have HBL5 := Lib.hid BL5
  clear K1 K3 o5 p5 q5 o5' p5' q5' BL5 o6 p6 q6 b6 K16
  go_wp2_with fail
  rw [show w6.heap.size = g4 from hg4.symm]
  clear hg4 ba d0 d1 d2 d3 d4 d5 d6 d7 d8
  generalize (w6.alloc (.cells #[.int .u64 k, .int .u64 id, .int .u64 off, .int .u64 n, .int .u64 cd, .bool fin, .slice A2 a2.length c2, .slice B2 b2.length e2, .slice R2 l2.length r2] 26)) = w7 at K4 o7 p7 q7 b7 ⊢
  refine (sameF_yes k id off n cd fin A2 a2 c2 B2 b2 e2 R2 l2 r2 A0 c0 B0 e0 R0 r0 w7 (Rd.of_own o7) (Rd.of_own p7) q7.reads ((Rd.of_own HO5.out.1).below b7) ((Rd.of_own HO5.out.2.1).below b7) (HO5.out.2.2.reads.below b7) HBY.out.1 HBY.out.2.1 (by omega)).mono ?_
  rintro e w8 ⟨rfl, b8⟩
  have CS0 : CS w5 w5.heap.size g4 (FC k id off n cd fin A2 a2.length c2 B2 b2.length e2 R2 l2.length r2) A2 c2 a2.length B2 e2 b2.length R2 r2 l2.length w8 := ⟨⟨a2, rfl, o7.below b8⟩, ⟨b2, rfl, p7.below b8⟩, ⟨l2, rfl, q7.below b8⟩, K4.below b8 K4.lt, b7.trans (b8.mono b7.size)⟩
  clear K4 o7 p7 q7 b7 b8
  have c6 := CS0.2.2.2.1.cell 6
  simp only [FC] at c6
  have HCS := Lib.hid CS0
  clear CS0
  go_wp2_with fail
  clear c6
  go_loopw [23] (fun i wr => ∃ (j : Nat), j ≤ a2.length ∧ i = .int .i64 j ∧ CS w5 w5.heap.size g4 (FC k id off n cd fin A2 a2.length c2 B2 b2.length e2 R2 l2.length r2) A2 c2 a2.length B2 e2 b2.length R2 r2 l2.length wr) (fun i _ => a2.length - (intOf i).toNat)
  case atStart => exact ⟨0, by omega, rfl, HCS.out⟩
  case round =>
    clear HCS
    obtain ⟨j, hj, rfl, cs⟩ := hrel
    have c6 := cs.2.2.2.1.cell 6
    have c8 := cs.2.2.2.1.cell 8
    simp only [FC] at c6 c8
    have HC := Lib.hid cs
    by_cases hlt : j < a2.length
    · obtain ⟨g, x, cur, rfl, hgN, hc, hf, kk⟩ := cs.ca hlt
      have KK := Lib.hid kk
      clear cs kk
      go_wp2_with fail
      go_roundw
      case rel => exact ⟨j + 1, by omega, by go_num, HC.out.u8 (Nat.le_refl _) KK.out hgN _⟩
      case measure => simp [intOf]; omega
    · have hd : decide (j < a2.length) = false := by simpa using hlt
      clear cs
      go_wp2_with fail
      clear c6 c8 hd hlt hj
      go_loopw [37] (fun i wr => ∃ (j : Nat), j ≤ l2.length ∧ i = .int .i64 j ∧ CS w5 w5.heap.size g4 (FC k id off n cd fin A2 a2.length c2 B2 b2.length e2 R2 l2.length r2) A2 c2 a2.length B2 e2 b2.length R2 r2 l2.length wr) (fun i _ => l2.length - (intOf i).toNat)
      case atStart => exact ⟨0, by omega, rfl, HC.out⟩
      case round =>
        clear HC
        obtain ⟨j, hj, rfl, cs⟩ := hrel
        have c8 := cs.2.2.2.1.cell 8
        have c7 := cs.2.2.2.1.cell 7
        simp only [FC] at c8 c7
        have HC := Lib.hid cs
        by_cases hlt : j < l2.length
        · obtain ⟨g, x, rfl, hc, hf, hput⟩ := cs.rg (Nat.le_refl _) hlt
          have HP := Lib.hid hput
          clear cs hput
          go_wp2_with fail
          go_roundw
          case rel => exact ⟨j + 1, by omega, by go_num, HP.out _⟩
          case measure => simp [intOf]; omega
        · have hd : decide (j < l2.length) = false := by simpa using hlt
          clear cs
          go_wp2_with fail
          clear c8 c7 hd hlt hj
          go_loopw [53] (fun i wr => ∃ (j : Nat), j ≤ b2.length ∧ i = .int .i64 j ∧ CS w5 w5.heap.size g4 (FC k id off n cd fin A2 a2.length c2 B2 b2.length e2 R2 l2.length r2) A2 c2 a2.length B2 e2 b2.length R2 r2 l2.length wr) (fun i _ => b2.length - (intOf i).toNat)
          case atStart => exact ⟨0, by omega, rfl, HC.out⟩
          case round =>
            clear HC
            obtain ⟨j, hj, rfl, cs⟩ := hrel
            have c7 := cs.2.2.2.1.cell 7
            simp only [FC] at c7
            have HC := Lib.hid cs
            by_cases hlt : j < b2.length
            · obtain ⟨g, x, cur, rfl, hgN, hc, hf, kk⟩ := cs.cb hlt
              have KK := Lib.hid kk
              clear cs kk
              go_wp2_with fail
              go_roundw
              case rel => exact ⟨j + 1, by omega, by go_num, HC.out.u8 (Nat.le_refl _) KK.out hgN _⟩
              case measure => simp [intOf]; omega
            · have hd : decide (j < b2.length) = false := by simpa using hlt
              have bz := cs.2.2.2.2
              clear cs
              have KZ1 := HK1.out.below bz zz1
              have KZ3 := HK3.out.below bz zz3
              have d0 := KZ1.cell 0
              have d1 := KZ1.cell 1
              have d2 := KZ1.cell 2
              have d3 := KZ1.cell 3
              have d4 := KZ1.cell 4
              have d5 := KZ1.cell 5
              have d6 := KZ1.cell 6
              have d7 := KZ1.cell 7
              have d8 := KZ1.cell 8
              simp only [FC] at d0 d1 d2 d3 d4 d5 d6 d7 d8
              have f0 := KZ3.cell 0
              have f1 := KZ3.cell 1
              have f2 := KZ3.cell 2
              have f3 := KZ3.cell 3
              have f4 := KZ3.cell 4
              have f5 := KZ3.cell 5
              have f6 := KZ3.cell 6
              have f7 := KZ3.cell 7
              have f8 := KZ3.cell 8
              simp only [FC] at f0 f1 f2 f3 f4 f5 f6 f7 f8
              have HZ := Lib.hid bz
              clear KZ1 KZ3 bz c7
              go_wp2_with fail
              refine (sameF_yes k id off n cd fin A1 a2 c1 B1 b2 e1 R1 l2 r1 A0 c0 B0 e0 R0 r0 _ ((Rd.of_own HO5'.out.1).below HZ.out) ((Rd.of_own HO5'.out.2.1).below HZ.out) (HO5'.out.2.2.reads.below HZ.out) ((Rd.of_own HO5.out.1).below HZ.out) ((Rd.of_own HO5.out.2.1).below HZ.out) (HO5.out.2.2.reads.below HZ.out) HBY.out.1 HBY.out.2.1 (by omega)).mono ?_
              rintro e w9 ⟨rfl, b9⟩
              have BZ := HBL5.out.trans (HZ.out.mono HBL5.out.size)
              have BZ9 := Lib.hid (BZ.trans (b9.mono BZ.size))
              clear BZ b9
              go_wp2_with fail
              go_ret
              exact ⟨rfl, BZ9.out⟩
end Go.Proofs.YtanfijgjcbflbaaDoor
