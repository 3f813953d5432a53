/-
  The reference's Few of a message (made by mkWordS.py).
-/
import Derived.Test.YtdcjnkakibeigaaDoorOpenMsg
import Derived.Test.YtdcjnkakibeigaaDoorWordC
import Derived.Deep.DeepCutAuto
import Derived.Deep.RegionWith
namespace Go.Proofs.YtdcjnkakibeigaaDoor
open Go.RowKit
set_option linter.unusedVariables false
/-- A message's cells. -/
def WC (kind id al prio ord sg so eg eo code n ver : Int) (sm : Bool) (A : Option Addr) (la ca : Nat) (B : Option Addr) (lb cb : Nat) (R : Option Addr) (lr cr : Nat) : Array Value :=
  #[.int .u64 kind, .int .u64 id, .int .u64 al, .slice A la ca, .int .u8 prio, .int .u8 ord, .int .u64 sg, .int .u64 so, .int .u64 eg, .int .u64 eo, .bool sm, .int .u64 code, .slice B lb cb, .int .u64 n, .int .u64 ver, .slice R lr cr]
theorem gsetW {w : World} {g i : Nat} {u : Value} : w.grownBy (w.setCell ⟨g, i, none⟩ u) (some g) :=
  ⟨rfl, rfl, rfl, by simp [World.setCell], fun j hj hne => Below.heap_setCell w ⟨g, i, none⟩ u j (by rintro rfl; exact hne rfl)⟩
theorem grow_rowW {w : World} {g : Nat} {cs : Array Value} : w.grownBy (w.setRow g cs) (some g) :=
  ⟨rfl, rfl, rfl, by simp, fun i hi hne => setRow_other w g i cs (by rintro rfl; exact hne rfl)⟩
abbrev OwnU (w : World) (base : Nat) (A : Option Addr) (c : Nat) (l : List Int) : Prop := OwnV w base 22 1 A c l.length (IV .u64 l)
section
variable {w w' : World} {g base c i : Nat} {A : Option Addr} {cs : Array Value} {T : TypeId}
theorem own_gsW {l : List Int} (h : Own w base A c l) (k : Blk w g T cs) (hT : 5 ≠ T) (hg : w.grownBy w' (some g)) : Own w' base A c l :=
  Own.grown h hg (fun g' cur hb e => by injection e with e; subst e; exact Blk.ne_ hb k hT rfl)
theorem ownU_gsW {l : List Int} (h : OwnU w base A c l) (k : Blk w g T cs) (hT : 22 ≠ T) (hg : w.grownBy w' (some g)) : OwnU w' base A c l :=
  OwnV.grown h hg (fun g' cur hb e => by injection e with e; subst e; exact Blk.ne_ hb k hT rfl)
theorem below_gsW {B : Nat} {a : World} (h : Below B a w) (hg : w.grownBy w' (some g)) (hB : B ≤ g) (hs : B ≤ w.heap.size) : Below B a w' :=
  ⟨hg.os.trans h.os, hg.tape.trans h.tape, hg.output.trans h.output, Nat.le_trans h.size hg.size, fun i hi => (hg.block i (by omega) (by intro e; injection e with e; omega)).trans (h.block i hi)⟩
theorem Blk.setRowPW {cs' : Array Value} (h : Blk w g T cs) : Blk (w.setRow g cs') g T cs' := by
  unfold Blk at h ⊢
  simp [World.setRow, Array.getElem?_modify, h]
end
theorem blk_2ndW (w : World) (o : Obj) (t : TypeId) (cs : Array Value) : Blk ((w.alloc o).alloc (.cells cs t)) (w.heap.size + 1) t cs := by
  have := Blk.new (w.alloc o) t cs
  simpa using this
section
variable {w : World} {g : Nat} {kind id al prio ord sg so eg eo code n ver : Int} {sm : Bool} {A B R : Option Addr} {la ca lb cb lr cr : Nat}
theorem wc3 (h : Blk w g 28 (WC kind id al prio ord sg so eg eo code n ver sm A la ca B lb cb R lr cr)) (A' : Option Addr) (la' ca' : Nat) : Blk (w.setCell ⟨g, 3, none⟩ (.slice A' la' ca')) g 28 (WC kind id al prio ord sg so eg eo code n ver sm A' la' ca' B lb cb R lr cr) := Blk.set_ h 3 _
theorem wc12 (h : Blk w g 28 (WC kind id al prio ord sg so eg eo code n ver sm A la ca B lb cb R lr cr)) (A' : Option Addr) (la' ca' : Nat) : Blk (w.setCell ⟨g, 12, none⟩ (.slice A' la' ca')) g 28 (WC kind id al prio ord sg so eg eo code n ver sm A la ca A' la' ca' R lr cr) := Blk.set_ h 12 _
theorem wc15 (h : Blk w g 28 (WC kind id al prio ord sg so eg eo code n ver sm A la ca B lb cb R lr cr)) (A' : Option Addr) (la' ca' : Nat) : Blk (w.setCell ⟨g, 15, none⟩ (.slice A' la' ca')) g 28 (WC kind id al prio ord sg so eg eo code n ver sm A la ca B lb cb A' la' ca') := Blk.set_ h 15 _
end
theorem info_rmsg : (Tryd.prog.info? 28).map (·.size) = some 16 := by kernel_rfl
theorem info_u64W : (Tryd.prog.info? 22).map (fun i => (i.zero, i.size, i.bytes)) = some (some (.int .u64 0), 1, 8) := by kernel_rfl
theorem upto_u64W (A : Option Addr) (n c k : Nat) (z : Int) (hz : z = k) (hk : k ≤ c) (w : World) :
    (Instr.slice 26 (.slice A n c) none (some (.int .i64 z)) none).run Tryd.prog w = .ok (.slice A k c) w := by
  subst hz
  have hel : Tryd.prog.elem 26 = 22 := by kernel_rfl
  have hs : (sizeOf 22).run Tryd.prog w = .ok 1 w := by
    obtain ⟨i0, hi0, hz0, hz1, hz2⟩ := info_parts info_u64W
    simp [sizeOf, typeInfo, hi0, hz1]
  rw [run_slice_h (P := Tryd.prog) w 26 A n c (by rw [hel]; exact Tryd.underlying26) .i64 (k : Int) (by omega) (by omega), hel, hs]
  cases A <;> simp [sliced, Addr.add]
theorem own_u0W (w : World) {base : Nat} (hb : base ≤ w.heap.size) : OwnV (w.alloc (.cells #[] 22)) base 22 1 (some ⟨w.heap.size, 0, none⟩) 0 0 [] :=
  Blk.own (Blk.new w 22 #[]) hb (by simp [maxLen]) rfl
def InvW (w : World) (gF gR : Nat) (F : Array Value) (W : World) : Prop := Blk W gF 28 F ∧ Blk W gR 28 (WC 0 0 0 0 0 0 0 0 0 0 0 0 false none 0 0 none 0 0 none 0 0) ∧ Below w.heap.size w W
def CutW (w : World) (gF gR : Nat) (kind id al prio ord sg so eg eo code n ver : Int) (sm : Bool) (a2 b2 : List Int) (R : Option Addr) (lr cr : Nat) (wx : World) : Prop :=
  ∃ A1 c1 B1 d1, Blk wx gF 28 (WC kind id al prio ord sg so eg eo code n ver sm A1 a2.length c1 B1 b2.length d1 R lr cr) ∧ Blk wx gR 28 (WC 0 0 0 0 0 0 0 0 0 0 0 0 false none 0 0 none 0 0 none 0 0) ∧ Own wx w.heap.size A1 c1 a2 ∧ Own wx w.heap.size B1 d1 b2 ∧ Below w.heap.size w wx
theorem fin_fewW {w W : World} {gF gR : Nat} {kind id al prio ord sg so eg eo code n ver : Int} {sm : Bool} {a2 b2 : List Int} {A B A1 B1 R : Option Addr} {la ca lb cb lr cr c1 d1 : Nat} (oa : Own W w.heap.size A1 c1 a2) (ob : Own W w.heap.size B1 d1 b2)
    (i : InvW w gF gR (WC kind id al prio ord sg so eg eo code n ver sm A la ca B lb cb R lr cr) W) (hF : w.heap.size ≤ gF) (hne : gR ≠ gF) :
    CutW w gF gR kind id al prio ord sg so eg eo code n ver sm a2 b2 R lr cr ((W.setCell ⟨gF, 3, none⟩ (.slice A1 a2.length c1)).setCell ⟨gF, 12, none⟩ (.slice B1 b2.length d1)) := by
  obtain ⟨k1, k2, k3⟩ := i
  have K1 := wc3 k1 A1 a2.length c1
  have K2 := k2.far (p := ⟨gF, 3, none⟩) (u := .slice A1 a2.length c1) hne
  have K3 := below_gsW k3 (@gsetW W gF 3 (.slice A1 a2.length c1)) hF k3.size
  have O1 := own_gsW oa k1 (by decide) (@gsetW W gF 3 (.slice A1 a2.length c1))
  have O2 := own_gsW ob k1 (by decide) (@gsetW W gF 3 (.slice A1 a2.length c1))
  generalize W.setCell ⟨gF, 3, none⟩ (.slice A1 a2.length c1) = W1 at *
  refine ⟨A1, c1, B1, d1, wc12 K1 B1 b2.length d1, K2.far (p := ⟨gF, 12, none⟩) (u := .slice B1 b2.length d1) hne, ?_, ?_, ?_⟩
  · exact own_gsW O1 K1 (by decide) gsetW
  · exact own_gsW O2 K1 (by decide) gsetW
  · exact below_gsW K3 gsetW hF K3.size
theorem Own.base_leW {w : World} {base c b2 : Nat} {A : Option Addr} {l : List Int} (h : Own w base A c l) (hb : b2 ≤ base) : Own w b2 A c l := OwnV.lower (show OwnV w base 5 1 A c l.length (U8 l) from h) hb
set_option maxHeartbeats 3200000 in
theorem fewW_raw (kind id al prio ord sg so eg eo code n ver : Int) (sm : Bool) (A : Option Addr) (a : List Int) (ca : Nat) (B : Option Addr) (b : List Int) (cb : Nat) (R : Option Addr) (l : List Int) (cr : Nat) (w : World)
    (ha : Sl w A ca a) (hb : Sl w B cb b) (hl : SlU w R cr l) :
    Calls Tryd.prog 9 #[.agg (WC kind id al prio ord sg so eg eo code n ver sm A a.length ca B b.length cb R l.length cr)] w fun e w' => ∃ A' ca' B' cb' R' cr', e = .returned (.agg (WC kind id al prio ord sg so eg eo code n ver sm A' (a.take 40).length ca' B' (b.take 80).length cb' R' (l.take 12).length cr')) ∧
      Own w' w.heap.size A' ca' (a.take 40) ∧ Own w' w.heap.size B' cb' (b.take 80) ∧ OwnU w' w.heap.size R' cr' (l.take 12) ∧ Below w.heap.size w w' := by
  have C1 := fun (W : World) (hx : Below w.heap.size w W) => cut_any A ca a 40 W (ha.rd.below hx) (by have := ha.max; have := ha.le; omega) ha.le (by omega) (by omega)
  have C2 := fun (W : World) (hx : Below w.heap.size w W) => cut_any B cb b 80 W (hb.rd.below hx) (by have := hb.max; have := hb.le; omega) hb.le (by omega) (by omega)
  obtain ⟨a2, ha2⟩ : ∃ x, x = a.take (40 : Int).toNat := ⟨_, rfl⟩
  obtain ⟨b2, hb2⟩ : ∃ x, x = b.take (80 : Int).toNat := ⟨_, rfl⟩
  obtain ⟨l2, hl2⟩ : ∃ x, x = l.take 12 := ⟨_, rfl⟩
  rw [← ha2] at C1
  rw [← hb2] at C2
  rw [show a.take 40 = a2 from ha2.symm, show b.take 80 = b2 from hb2.symm, show l.take 12 = l2 from hl2.symm]
  have C1 := Lib.hid C1
  have C2 := Lib.hid C2
  have hll : l2.length = min l.length 12 := by rw [hl2, List.length_take]; omega
  have hl2r : RdI .u64 w R l2 := by
    have h := (show Reads w w.heap.size 1 R l.length (IV .u64 l) from hl.rd).upto (k := min l.length 12) (by omega)
    have e : (IV .u64 l).take (min l.length 12 * 1) = IV .u64 (l.take 12) := by
      rw [Nat.mul_one]; unfold IV; rw [← List.map_take]
      rcases Nat.le_total l.length 12 with h | h <;> simp [h, List.take_of_length_le]
    rw [e, ← hll, ← hl2] at h
    exact h
  have SL := upto_u64W R l.length cr l2.length (l2.length : Int) rfl (by have := hl.le; omega)
  have Z1 : (if (l.length : Int) < 12 then (l.length : Int) else 12) = (l2.length : Int) := by rw [hll]; split <;> omega
  have Z2 : (if (12 : Int) < (l.length : Int) then (12 : Int) else (l.length : Int)) = (l2.length : Int) := by rw [hll]; split <;> omega
  have hl12 : l2.length ≤ 12 := by omega
  have HL2 := Lib.hid hl2r
  have hlm : (l.length : Int) ≤ 9223372036854775807 := by have := hl.le; have := hl.max; omega
  clear ha hb hl ha2 hb2 hl2 hl2r hll
  unfold WC
  go_enter Tryd.func9, Tryd.ntmps9
  go_upto_region 1 with (fail)
  have KB : Blk ((w.alloc (.cells #[.int .u64 kind, .int .u64 id, .int .u64 al, .slice A a.length ca, .int .u8 prio, .int .u8 ord, .int .u64 sg, .int .u64 so, .int .u64 eg, .int .u64 eo, .bool sm, .int .u64 code, .slice B b.length cb, .int .u64 n, .int .u64 ver, .slice R l.length cr] 28)).alloc (.cells #[.int .u64 0, .int .u64 0, .int .u64 0, .slice none 0 0, .int .u8 0, .int .u8 0, .int .u64 0, .int .u64 0, .int .u64 0, .int .u64 0, .bool false, .int .u64 0, .slice none 0 0, .int .u64 0, .int .u64 0, .slice none 0 0] 28)) w.heap.size 28 (WC kind id al prio ord sg so eg eo code n ver sm A a.length ca B b.length cb R l.length cr) := (Blk.new w _ _).alloc _
  have KR : Blk ((w.alloc (.cells #[.int .u64 kind, .int .u64 id, .int .u64 al, .slice A a.length ca, .int .u8 prio, .int .u8 ord, .int .u64 sg, .int .u64 so, .int .u64 eg, .int .u64 eo, .bool sm, .int .u64 code, .slice B b.length cb, .int .u64 n, .int .u64 ver, .slice R l.length cr] 28)).alloc (.cells #[.int .u64 0, .int .u64 0, .int .u64 0, .slice none 0 0, .int .u8 0, .int .u8 0, .int .u64 0, .int .u64 0, .int .u64 0, .int .u64 0, .bool false, .int .u64 0, .slice none 0 0, .int .u64 0, .int .u64 0, .slice none 0 0] 28)) (w.heap.size + 1) 28 (WC 0 0 0 0 0 0 0 0 0 0 0 0 false none 0 0 none 0 0 none 0 0) := blk_2ndW _ _ _ _
  have BL : Below w.heap.size w ((w.alloc (.cells #[.int .u64 kind, .int .u64 id, .int .u64 al, .slice A a.length ca, .int .u8 prio, .int .u8 ord, .int .u64 sg, .int .u64 so, .int .u64 eg, .int .u64 eo, .bool sm, .int .u64 code, .slice B b.length cb, .int .u64 n, .int .u64 ver, .slice R l.length cr] 28)).alloc (.cells #[.int .u64 0, .int .u64 0, .int .u64 0, .slice none 0 0, .int .u8 0, .int .u8 0, .int .u64 0, .int .u64 0, .int .u64 0, .int .u64 0, .bool false, .int .u64 0, .slice none 0 0, .int .u64 0, .int .u64 0, .slice none 0 0] 28)) := ((Below.refl _ _).alloc (Nat.le_refl _) _).alloc (by simp) _
  obtain ⟨gF, hgF⟩ : ∃ g, g = w.heap.size := ⟨_, rfl⟩
  obtain ⟨gR, hgR⟩ : ∃ g, g = w.heap.size + 1 := ⟨_, rfl⟩
  rw [← hgF] at KB
  rw [← hgR] at KR
  rw [show w.heap.size + 1 = gR from hgR.symm]
  generalize ((w.alloc (.cells #[.int .u64 kind, .int .u64 id, .int .u64 al, .slice A a.length ca, .int .u8 prio, .int .u8 ord, .int .u64 sg, .int .u64 so, .int .u64 eg, .int .u64 eo, .bool sm, .int .u64 code, .slice B b.length cb, .int .u64 n, .int .u64 ver, .slice R l.length cr] 28)).alloc (.cells #[.int .u64 0, .int .u64 0, .int .u64 0, .slice none 0 0, .int .u8 0, .int .u8 0, .int .u64 0, .int .u64 0, .int .u64 0, .int .u64 0, .bool false, .int .u64 0, .slice none 0 0, .int .u64 0, .int .u64 0, .slice none 0 0] 28)) = w1 at KB KR BL ⊢
  rw [show w.heap.size = gF from hgF.symm]
  have hF : w.heap.size ≤ gF := by omega
  have hR : w.heap.size ≤ gR := by omega
  have hne : gR ≠ gF := by omega
  have zF := KB.lt
  have zR := KR.lt
  clear hgF hgR
  have k3 := KB.cell 3
  have k12 := KB.cell 12
  simp only [WC, List.getElem?_toArray, List.getElem?_cons_zero, List.getElem?_cons_succ] at k3 k12
  have D1 := Lib.hid (show ∀ W, InvW w gF gR (WC kind id al prio ord sg so eg eo code n ver sm A a.length ca B b.length cb R l.length cr) W → Calls Tryd.prog 22 #[.slice A a.length ca, .int .i64 40] W fun r w' => ∃ A' c', r = .returned (.slice A' a2.length c') ∧ Own w' w.heap.size A' c' a2 ∧ InvW w gF gR (WC kind id al prio ord sg so eg eo code n ver sm A a.length ca B b.length cb R l.length cr) w' ∧ Below W.heap.size W w' from fun W ⟨i1, i2, i3⟩ => (C1.out W i3).mono fun r w' ⟨A', c', h1, h2, h3⟩ => ⟨A', c', h1, h2.base_leW i3.size, ⟨i1.below h3 i1.lt, i2.below h3 i2.lt, i3.trans (h3.mono i3.size)⟩, h3⟩)
  have D2 := Lib.hid (show ∀ W, InvW w gF gR (WC kind id al prio ord sg so eg eo code n ver sm A a.length ca B b.length cb R l.length cr) W → Calls Tryd.prog 22 #[.slice B b.length cb, .int .i64 80] W fun r w' => ∃ A' c', r = .returned (.slice A' b2.length c') ∧ Own w' w.heap.size A' c' b2 ∧ InvW w gF gR (WC kind id al prio ord sg so eg eo code n ver sm A a.length ca B b.length cb R l.length cr) w' ∧ Below W.heap.size W w' from fun W ⟨i1, i2, i3⟩ => (C2.out W i3).mono fun r w' ⟨A', c', h1, h2, h3⟩ => ⟨A', c', h1, h2.base_leW i3.size, ⟨i1.below h3 i1.lt, i2.below h3 i2.lt, i3.trans (h3.mono i3.size)⟩, h3⟩)
  have I0 : InvW w gF gR (WC kind id al prio ord sg so eg eo code n ver sm A a.length ca B b.length cb R l.length cr) w1.drew := ⟨KB, KR, BL.drew⟩
  clear KB KR BL C1 C2
  go_cut [] (fun wx => CutW w gF gR kind id al prio ord sg so eg eo code n ver sm a2 b2 R l.length cr wx)
  case first =>
    go_region_with (first
      | (go_at_call 22
         (with_reducible refine (D1.out _ (by assumption)).mono ?_)
         rintro e wa ⟨Aa, c1, rfl, oa, ia, ba⟩
         have ka := ia.1
         have qa6 := ka.cell 3
         have qa7 := ka.cell 12
         have fa6 := ka.frozen 3
         have fa7 := ka.frozen 12
         simp only [WC, List.getElem?_toArray, List.getElem?_cons_zero, List.getElem?_cons_succ] at qa6 qa7)
      | (go_at_call 22
         (with_reducible refine (D2.out _ (by assumption)).mono ?_)
         rintro e wb ⟨Ab, d1, rfl, ob, ib, bb⟩
         have kb := ib.1
         have qb6 := kb.cell 3
         have qb7 := kb.cell 12
         have fb6 := kb.frozen 3
         have fb7 := kb.frozen 12
         simp only [WC, List.getElem?_toArray, List.getElem?_cons_zero, List.getElem?_cons_succ] at qb6 qb7))
    all_goals (
      go_wp2_with fail
      go_meet
      first
        | (with_reducible exact fin_fewW (Own.below oa bb) ob ib hF hne)
        | (with_reducible exact fin_fewW oa (Own.below ob ba) ia hF hne))
  case rest =>
    obtain ⟨A0, c0, A1, c1, KB, KR, o0, o1, BL⟩ := hcut
    have zF := KB.lt
    have zR := KR.lt
    have d15 := KB.cell 15
    simp only [WC, List.getElem?_toArray, List.getElem?_cons_zero, List.getElem?_cons_succ] at d15
    have HKB := Lib.hid KB
    have HKR := Lib.hid KR
    have HBL := Lib.hid BL
    have HO0 := Lib.hid o0
    have HO1 := Lib.hid o1
    clear KB KR BL o0 o1 k3 k12 I0 D1 D2
    go_upto_region 3 with (at_builtin; go_must (refine wpList_appV rfl (.tmp 11) (.tmp 18) 26 22 1 8 (.int .u64 0) rfl Tryd.underlying26 info_u64W rfl (by omega) wc.heap.size (n := 0) (m := l2.length) (xs := []) (news := IV .u64 l2) (d := cr) rfl rfl (own_u0W wc (Nat.le_refl _)) ((HL2.out.below HBL.out).alloc _) (by intro u hu; simp only [IV, List.mem_map] at hu; obtain ⟨x, _, rfl⟩ := hu; rfl) (by unfold maxLen; omega) (by omega) (by simp) ?_); intro A2 c2 w2 hown hg hb; have f15 := (HKB.out.below (((Below.refl wc.heap.size wc).alloc (Nat.le_refl _) _).trans hb) zF).frozen 15; have z2 := (HKB.out.below (((Below.refl wc.heap.size wc).alloc (Nat.le_refl _) _).trans hb) zF).lt; have e15 := (HKB.out.below (((Below.refl wc.heap.size wc).alloc (Nat.le_refl _) _).trans hb) zF).cell 15; simp only [WC, List.getElem?_toArray, List.getElem?_cons_zero, List.getElem?_cons_succ] at e15)
    have hB := ((Below.refl wc.heap.size wc).alloc (Nat.le_refl _) (.cells #[] 22)).trans hb
    have K2 := HKB.out.below hB zF
    have KR2 := HKR.out.below hB zR
    have p0 := Own.below HO0.out hB
    have p1 := Own.below HO1.out hB
    have p2 : OwnU w2 w.heap.size A2 c2 l2 := OwnV.lower (base := wc.heap.size) (by simpa [OwnU] using hown) HBL.out.size
    have B2 := HBL.out.trans (hB.mono HBL.out.size)
    have KB := wc15 K2 A2 l2.length c2
    have KR := KR2.far (p := ⟨gF, 15, none⟩) (u := .slice A2 l2.length c2) hne
    have o0 := own_gsW p0 K2 (by decide) (@gsetW w2 gF 15 (.slice A2 l2.length c2))
    have o1 := own_gsW p1 K2 (by decide) (@gsetW w2 gF 15 (.slice A2 l2.length c2))
    have o2 := ownU_gsW p2 K2 (by decide) (@gsetW w2 gF 15 (.slice A2 l2.length c2))
    have BL := below_gsW B2 (@gsetW w2 gF 15 (.slice A2 l2.length c2)) hF B2.size
    clear hB K2 KR2 p0 p1 p2 B2 hown hg hb f15 z2 e15 HKB HKR HBL HO0 HO1 d15
    generalize w2.setCell ⟨gF, 15, none⟩ (.slice A2 l2.length c2) = w3 at KB KR BL o0 o1 o2 ⊢
    have d0 := KB.cell 0
    have d1 := KB.cell 1
    have d2 := KB.cell 2
    have d3 := KB.cell 3
    have d4 := KB.cell 4
    have d5 := KB.cell 5
    have d6 := KB.cell 6
    have d7 := KB.cell 7
    have d8 := KB.cell 8
    have d9 := KB.cell 9
    have d10 := KB.cell 10
    have d11 := KB.cell 11
    have d12 := KB.cell 12
    have d13 := KB.cell 13
    have d14 := KB.cell 14
    have d15 := KB.cell 15
    simp only [WC, List.getElem?_toArray, List.getElem?_cons_zero, List.getElem?_cons_succ] at d0 d1 d2 d3 d4 d5 d6 d7 d8 d9 d10 d11 d12 d13 d14 d15
    have HKR := Lib.hid KR
    have HBL := Lib.hid BL
    have HO0 := Lib.hid o0
    have HO1 := Lib.hid o1
    have HO2 := Lib.hid o2
    clear KB KR BL o0 o1 o2
    go_wp2_with (refine wpList_store_row rfl 28 (.tmp 2) (.tmp 21) rfl gR _ rfl rfl 28 _ HKR.out info_rmsg rfl (by simp [WC, Value.oneCell']) ?_)
    refine bodyPost_ret (v := .agg (WC kind id al prio ord sg so eg eo code n ver sm A0 a2.length c0 A1 b2.length c1 A2 l2.length c2)) (results_cell_row rfl _ _ gR 28 _ (0, 0) _ rfl (Blk.setRowPW HKR.out) Tryd.underlying28 rfl (by kernel_rfl)) rfl ⟨A0, c0, A1, c1, A2, c2, rfl, ?_, ?_, ?_, ?_⟩
    · exact own_gsW HO0.out HKR.out (by decide) grow_rowW
    · exact own_gsW HO1.out HKR.out (by decide) grow_rowW
    · exact ownU_gsW HO2.out HKR.out (by decide) grow_rowW
    · exact below_gsW HBL.out grow_rowW hR HBL.out.size
def cutM (m : MV) : MV := { m with name := m.name.take 40, reason := m.reason.take 80, vers := m.vers.take 12 }
/-- What Few answers: the message, cut, with rows of its own. -/
structure FewTo (w w' : World) (m : MV) (r : Ending) : Prop where
  ok : ∃ nA nc rA rc vA vc, r = .returned (.agg (mvC (cutM m) nA nc rA rc vA vc)) ∧ Own w' w.heap.size nA nc (cutM m).name ∧ Own w' w.heap.size rA rc (cutM m).reason ∧ OwnU w' w.heap.size vA vc (cutM m).vers
  bel : Below w.heap.size w w'
theorem fewW_any (x : RM) (w : World) (h : RMOk w x) : Calls Tryd.prog 9 #[.agg x.val] w fun r w' => FewTo w w' x.m r := by
  obtain ⟨m, nA, nc, rA, rc, vA, vc⟩ := x
  exact (fewW_raw m.kind m.id m.alias_ m.prio m.ord m.sg m.so m.eg m.eo m.code m.n m.ver m.some_ nA m.name nc rA m.reason rc vA m.vers vc w h.nm.1 h.rs.1 h.vs).mono
    fun r w' ⟨A', ca', B', cb', R', cr', e, h1, h2, h3, h4⟩ => ⟨⟨A', ca', B', cb', R', cr', e, h1, h2, h3⟩, h4⟩
end Go.Proofs.YtdcjnkakibeigaaDoor
