/-
  Frames: the same; the reference's Few; Copy.
-/
import Derived.Test.YtanfijgjcbflbaaDoorFrameH
import Derived.Deep.DeepCutAuto
import Derived.Deep.RegionWith
namespace Go.Proofs.YtanfijgjcbflbaaDoor
open Go.RowKit
set_option linter.unusedVariables false

theorem sameB_refl' (a : List Int) : sameB a a = true := by simp [sameB]
/-- A frame's cells. -/
def FC (k id off n cd : Int) (fin : Bool) (A : Option Addr) (la ca : Nat) (B : Option Addr) (lb cb : Nat) (R : Option Addr) (lr cr : Nat) : Array Value :=
  #[.int .u64 k, .int .u64 id, .int .u64 off, .int .u64 n, .int .u64 cd, .bool fin, .slice A la ca, .slice B lb cb, .slice R lr cr]
theorem gset {w : World} {g i : Nat} {u : Value} : w.grownBy (w.setCell ⟨g, i, none⟩ u) (some g) :=
  ⟨rfl, rfl, rfl, by simp [World.setCell], fun j hj hne => Below.heap_setCell w ⟨g, i, none⟩ u j (by rintro rfl; exact hne rfl)⟩
theorem grow_row {w : World} {g : Nat} {cs : Array Value} : w.grownBy (w.setRow g cs) (some g) :=
  ⟨rfl, rfl, rfl, by simp, fun i hi hne => setRow_other w g i cs (by rintro rfl; exact hne rfl)⟩
section
variable {w w' : World} {g base c i : Nat} {A : Option Addr} {cs : Array Value} {T : TypeId}
theorem own_gs {l : List Int} (h : Own w base A c l) (k : Blk w g T cs) (hT : 5 ≠ T) (hg : w.grownBy w' (some g)) : Own w' base A c l :=
  Own.grown h hg (fun g' cur hb e => by injection e with e; subst e; exact Blk.ne_ hb k hT rfl)
theorem ownG_gs {l : List (Int × Int)} (h : OwnG w base A c l) (k : Blk w g T cs) (hT : 31 ≠ T) (hg : w.grownBy w' (some g)) : OwnG w' base A c l :=
  OwnV.grown h hg (fun g' cur hb e => by injection e with e; subst e; exact Blk.ne_ hb k hT rfl)
theorem below_gs {B : Nat} {a : World} (h : Below B a w) (hg : w.grownBy w' (some g)) (hB : B ≤ g) (hs : B ≤ w.heap.size) : Below B a w' :=
  ⟨hg.os.trans h.os, hg.tape.trans h.tape, hg.output.trans h.output, Nat.le_trans h.size hg.size, fun i hi => (hg.block i (by omega) (by intro e; injection e with e; omega)).trans (h.block i hi)⟩
theorem OwnG.base_le {l : List (Int × Int)} {b2 : Nat} (h : OwnG w base A c l) (hb : b2 ≤ base) : OwnG w b2 A c l := by
  obtain ⟨h1, h2⟩ := h
  refine ⟨h1, ?_⟩
  rcases h2 with h2 | ⟨g, cap, cur, hv, hg, r⟩
  · exact .inl h2
  · exact .inr ⟨g, cap, cur, hv, Nat.le_trans hb hg, r⟩
theorem Own.base_le' {l : List Int} {b2 : Nat} (h : Own w base A c l) (hb : b2 ≤ base) : Own w b2 A c l := by
  obtain ⟨h1, h2⟩ := h
  refine ⟨h1, ?_⟩
  rcases h2 with h2 | ⟨g, cap, cur, hv, hg, r⟩
  · exact .inl h2
  · exact .inr ⟨g, cap, cur, hv, Nat.le_trans hb hg, r⟩
theorem Blk.setRowP {cs' : Array Value} (h : Blk w g T cs) : Blk (w.setRow g cs') g T cs' := by
  unfold Blk at h ⊢
  simp [World.setRow, Array.getElem?_modify, h]
theorem Blk.setRowFar {h : Nat} {cs' : Array Value} (x : Blk w g T cs) (hne : g ≠ h) : Blk (w.setRow h cs') g T cs := (setRow_other w h g cs' hne).trans x
end
theorem blk_2nd (w : World) (o : Obj) (t : TypeId) (cs : Array Value) : Blk ((w.alloc o).alloc (.cells cs t)) (w.heap.size + 1) t cs := by
  have := Blk.new (w.alloc o) t cs
  simpa using this
section
variable {w : World} {g : Nat} {k id off n cd : Int} {fin : Bool} {A B R : Option Addr} {la ca lb cb lr cr : Nat}
theorem fc6 (h : Blk w g 26 (FC k id off n cd fin A la ca B lb cb R lr cr)) (A' : Option Addr) (la' ca' : Nat) : Blk (w.setCell ⟨g, 6, none⟩ (.slice A' la' ca')) g 26 (FC k id off n cd fin A' la' ca' B lb cb R lr cr) := Blk.set_ h 6 _
theorem fc7 (h : Blk w g 26 (FC k id off n cd fin A la ca B lb cb R lr cr)) (A' : Option Addr) (la' ca' : Nat) : Blk (w.setCell ⟨g, 7, none⟩ (.slice A' la' ca')) g 26 (FC k id off n cd fin A la ca A' la' ca' R lr cr) := Blk.set_ h 7 _
theorem fc8 (h : Blk w g 26 (FC k id off n cd fin A la ca B lb cb R lr cr)) (A' : Option Addr) (la' ca' : Nat) : Blk (w.setCell ⟨g, 8, none⟩ (.slice A' la' ca')) g 26 (FC k id off n cd fin A la ca B lb cb A' la' ca') := Blk.set_ h 8 _
end
theorem info_frame : (Tryd.prog.info? 26).map (·.size) = some 9 := by kernel_rfl
set_option maxRecDepth 100000 in
set_option maxHeartbeats 1600000 in
theorem sameF_yes (k id off n cd : Int) (fin : Bool) (A : Option Addr) (a : List Int) (ca : Nat) (B : Option Addr) (b : List Int) (cb : Nat) (R : Option Addr) (l : List (Int × Int)) (cr : Nat) (A' : Option Addr) (ca' : Nat) (B' : Option Addr) (cb' : Nat) (R' : Option Addr) (cr' : Nat) (w : World)
    (ha : Rd w A a) (hb : Rd w B b) (hl : RdG w R l) (ha' : Rd w A' a) (hb' : Rd w B' b) (hl' : RdG w R' l) (h1 : Bytes a) (h2 : Bytes b) (h3 : l.length ≤ 1000) :
    Calls Tryd.prog 7 #[.agg (FC k id off n cd fin A a.length ca B b.length cb R l.length cr), .agg (FC k id off n cd fin A' a.length ca' B' b.length cb' R' l.length cr')] w fun e w' => e = .returned (.bool true) ∧ Below w.heap.size w w' := by
  have C1 := Lib.hid (fun (W : World) (hx : Below w.heap.size w W) => same_any A A' ca ca' a a W (ha.below hx) (ha'.below hx) h1 h1)
  have C2 := Lib.hid (fun (W : World) (hx : Below w.heap.size w W) => same_any B B' cb cb' b b W (hb.below hx) (hb'.below hx) h2 h2)
  have C3 := Lib.hid (fun (W : World) (hx : Below w.heap.size w W) => sameRanges_yes R cr R' cr' l W (hl.below hx) (hl'.below hx) h3)
  rw [sameB_refl'] at C1 C2
  unfold FC
  clear ha hb ha' hb' hl hl' h1 h2 h3
  have bb : Below w.heap.size w ((w.alloc (.cells #[.int .u64 k, .int .u64 id, .int .u64 off, .int .u64 n, .int .u64 cd, .bool fin, .slice A a.length ca, .slice B b.length cb, .slice R l.length cr] 26)).alloc (.cells #[.int .u64 k, .int .u64 id, .int .u64 off, .int .u64 n, .int .u64 cd, .bool fin, .slice A' a.length ca', .slice B' b.length cb', .slice R' l.length cr'] 26)) := ((Below.refl _ _).alloc (Nat.le_refl _) _).alloc (by simp) _
  have BB := Lib.hid bb
  clear bb
  go_enter Tryd.func7, Tryd.ntmps7
  go_wp2_with fail
  refine (C1.out _ BB.out).mono ?_
  rintro e w1 ⟨rfl, rfl⟩
  go_wp2_with fail
  refine (C2.out _ BB.out).mono ?_
  rintro e w1 ⟨rfl, rfl⟩
  go_wp2_with fail
  refine (C3.out _ BB.out).mono ?_
  rintro e w1 ⟨rfl, q, rfl⟩
  go_wp2_with fail
  go_ret
  exact ⟨rfl, BB.out.trans ⟨rfl, rfl, rfl, Nat.le_refl _, fun _ _ => rfl⟩⟩
set_option maxHeartbeats 1600000 in
theorem copyF_any (k id off n cd : Int) (fin : Bool) (A : Option Addr) (a : List Int) (ca : Nat) (B : Option Addr) (b : List Int) (cb : Nat) (R : Option Addr) (l : List (Int × Int)) (cr : Nat) (w : World)
    (ha : Rd w A a) (hb : Rd w B b) (hl : RdG w R l) (ka : a.length ≤ 1000000) (kb : b.length ≤ 1000000) (kl : l.length ≤ 1000) (na : A = none → a = [] ∧ ca = 0) (nb : B = none → b = [] ∧ cb = 0) (nl : R = none → l = [] ∧ cr = 0) :
    Calls Tryd.prog 6 #[.agg (FC k id off n cd fin A a.length ca B b.length cb R l.length cr)] w fun e w' => ∃ A' ca' B' cb' R' cr', e = .returned (.agg (FC k id off n cd fin A' a.length ca' B' b.length cb' R' l.length cr')) ∧
      Own w' w.heap.size A' ca' a ∧ Own w' w.heap.size B' cb' b ∧ OwnG w' w.heap.size R' cr' l ∧ Below w.heap.size w w' := by
  have C1 := Lib.hid (fun (W : World) (hx : Below w.heap.size w W) => clone_any A ca a W (ha.below hx) (by omega) na)
  have C2 := Lib.hid (fun (W : World) (hx : Below w.heap.size w W) => clone_any B cb b W (hb.below hx) (by omega) nb)
  have C3 := Lib.hid (fun (W : World) (hx : Below w.heap.size w W) => cloneG_any R cr l W (hl.below hx) kl nl)
  unfold FC
  clear ha hb hl ka kb kl na nb nl
  go_enter Tryd.func6, Tryd.ntmps6
  go_wp2_with fail
  have KB : Blk (((w.alloc (.cells #[.int .u64 k, .int .u64 id, .int .u64 off, .int .u64 n, .int .u64 cd, .bool fin, .slice A a.length ca, .slice B b.length cb, .slice R l.length cr] 26)).alloc (.cells #[.int .u64 0, .int .u64 0, .int .u64 0, .int .u64 0, .int .u64 0, .bool false, .slice none 0 0, .slice none 0 0, .slice none 0 0] 26))) w.heap.size 26 (FC k id off n cd fin A a.length ca B b.length cb R l.length cr) := (Blk.new w _ _).alloc _
  have KR : Blk (((w.alloc (.cells #[.int .u64 k, .int .u64 id, .int .u64 off, .int .u64 n, .int .u64 cd, .bool fin, .slice A a.length ca, .slice B b.length cb, .slice R l.length cr] 26)).alloc (.cells #[.int .u64 0, .int .u64 0, .int .u64 0, .int .u64 0, .int .u64 0, .bool false, .slice none 0 0, .slice none 0 0, .slice none 0 0] 26))) (w.heap.size + 1) 26 (FC 0 0 0 0 0 false none 0 0 none 0 0 none 0 0) := blk_2nd _ _ _ _
  have BL : Below w.heap.size w (((w.alloc (.cells #[.int .u64 k, .int .u64 id, .int .u64 off, .int .u64 n, .int .u64 cd, .bool fin, .slice A a.length ca, .slice B b.length cb, .slice R l.length cr] 26)).alloc (.cells #[.int .u64 0, .int .u64 0, .int .u64 0, .int .u64 0, .int .u64 0, .bool false, .slice none 0 0, .slice none 0 0, .slice none 0 0] 26))) := ((Below.refl _ _).alloc (Nat.le_refl _) _).alloc (by simp) _
  obtain ⟨gF, hgF⟩ : ∃ g, g = w.heap.size := ⟨_, rfl⟩
  obtain ⟨gR, hgR⟩ : ∃ g, g = w.heap.size + 1 := ⟨_, rfl⟩
  rw [← hgF] at KB
  rw [← hgR] at KR
  rw [show w.heap.size + 1 = gR from hgR.symm]
  generalize (((w.alloc (.cells #[.int .u64 k, .int .u64 id, .int .u64 off, .int .u64 n, .int .u64 cd, .bool fin, .slice A a.length ca, .slice B b.length cb, .slice R l.length cr] 26)).alloc (.cells #[.int .u64 0, .int .u64 0, .int .u64 0, .int .u64 0, .int .u64 0, .bool false, .slice none 0 0, .slice none 0 0, .slice none 0 0] 26))) = w1 at KB KR BL ⊢
  rw [show w.heap.size = gF from hgF.symm]
  have hF : w.heap.size ≤ gF := by omega
  have hR : w.heap.size ≤ gR := by omega
  have hne : gR ≠ gF := by omega
  have zF := KB.lt
  have zR := KR.lt
  clear hgF hgR
  refine (C1.out w1 BL).mono ?_
  rintro e w2 ⟨A0, c0, rfl, o0, b0⟩
  have o0 := o0.base_le' (show w.heap.size ≤ w1.heap.size from BL.size)
  have KB := KB.below b0 zF
  have KR := KR.below b0 zR
  have BL := BL.trans (b0.mono BL.size)
  have zF := KB.lt
  have zR := KR.lt
  have f6 := KB.frozen 6
  have d6 := KB.cell 6
  have HKB := Lib.hid KB
  have HKR := Lib.hid KR
  have HBL := Lib.hid BL
  have HO0 := Lib.hid o0
  clear KB KR BL o0 b0
  simp only [FC] at d6
  go_upto_region 2 with (fail)
  have KB := fc6 HKB.out A0 a.length c0
  have KR := HKR.out.far (p := ⟨gF, 6, none⟩) (u := .slice A0 a.length c0) hne
  have o0 := own_gs HO0.out HKB.out (by decide) (@gset w2 gF 6 (.slice A0 a.length c0))
  have BL := below_gs HBL.out (@gset w2 gF 6 (.slice A0 a.length c0)) hF HBL.out.size
  clear HKB HKR HBL f6 d6 HO0
  generalize w2.setCell ⟨gF, 6, none⟩ (.slice A0 a.length c0) = w3 at KB KR BL o0 ⊢
  have zF := KB.lt
  have zR := KR.lt
  have d7 := KB.cell 7
  simp only [FC] at d7
  go_wp2_with fail
  clear d7
  refine (C2.out w3 BL).mono ?_
  rintro e w4 ⟨A1, c1, rfl, o1, b1⟩
  have o1 := o1.base_le' (show w.heap.size ≤ w3.heap.size from BL.size)
  have o0 := Own.below o0 b1
  have KB := KB.below b1 zF
  have KR := KR.below b1 zR
  have BL := BL.trans (b1.mono BL.size)
  have zF := KB.lt
  have zR := KR.lt
  have f7 := KB.frozen 7
  have d7 := KB.cell 7
  have HKB := Lib.hid KB
  have HKR := Lib.hid KR
  have HBL := Lib.hid BL
  have HO0 := Lib.hid o0
  have HO1 := Lib.hid o1
  clear KB KR BL o0 o1 b1
  simp only [FC] at d7
  go_upto_region 3 with (fail)
  have KB := fc7 HKB.out A1 b.length c1
  have KR := HKR.out.far (p := ⟨gF, 7, none⟩) (u := .slice A1 b.length c1) hne
  have o0 := own_gs HO0.out HKB.out (by decide) (@gset w4 gF 7 (.slice A1 b.length c1))
  have o1 := own_gs HO1.out HKB.out (by decide) (@gset w4 gF 7 (.slice A1 b.length c1))
  have BL := below_gs HBL.out (@gset w4 gF 7 (.slice A1 b.length c1)) hF HBL.out.size
  clear HKB HKR HBL f7 d7 HO0 HO1
  generalize w4.setCell ⟨gF, 7, none⟩ (.slice A1 b.length c1) = w5 at KB KR BL o0 o1 ⊢
  have zF := KB.lt
  have zR := KR.lt
  have d8 := KB.cell 8
  simp only [FC] at d8
  go_wp2_with fail
  clear d8
  refine (C3.out w5 BL).mono ?_
  rintro e w6 ⟨A2, c2, rfl, o2, b2⟩
  have o2 := o2.base_le (show w.heap.size ≤ w5.heap.size from BL.size)
  have o0 := Own.below o0 b2
  have o1 := Own.below o1 b2
  have KB := KB.below b2 zF
  have KR := KR.below b2 zR
  have BL := BL.trans (b2.mono BL.size)
  have zF := KB.lt
  have zR := KR.lt
  have f8 := KB.frozen 8
  have d8 := KB.cell 8
  have HKB := Lib.hid KB
  have HKR := Lib.hid KR
  have HBL := Lib.hid BL
  have HO0 := Lib.hid o0
  have HO1 := Lib.hid o1
  have HO2 := Lib.hid o2
  clear KB KR BL o0 o1 o2 b2
  simp only [FC] at d8
  go_upto_region 4 with (fail)
  have KB := fc8 HKB.out A2 l.length c2
  have KR := HKR.out.far (p := ⟨gF, 8, none⟩) (u := .slice A2 l.length c2) hne
  have o0 := own_gs HO0.out HKB.out (by decide) (@gset w6 gF 8 (.slice A2 l.length c2))
  have o1 := own_gs HO1.out HKB.out (by decide) (@gset w6 gF 8 (.slice A2 l.length c2))
  have o2 := ownG_gs HO2.out HKB.out (by decide) (@gset w6 gF 8 (.slice A2 l.length c2))
  have BL := below_gs HBL.out (@gset w6 gF 8 (.slice A2 l.length c2)) hF HBL.out.size
  clear HKB HKR HBL f8 d8 HO0 HO1 HO2
  generalize w6.setCell ⟨gF, 8, none⟩ (.slice A2 l.length c2) = w7 at KB KR BL o0 o1 o2 ⊢
  have zF := KB.lt
  have zR := KR.lt
  have d0 := KB.cell 0
  have d1 := KB.cell 1
  have d2 := KB.cell 2
  have d3 := KB.cell 3
  have d4 := KB.cell 4
  have d5 := KB.cell 5
  have d6 := KB.cell 6
  have d7 := KB.cell 7
  have d8 := KB.cell 8
  simp only [FC] at d0 d1 d2 d3 d4 d5 d6 d7 d8
  have HKR := Lib.hid KR
  have HBL := Lib.hid BL
  have HO0 := Lib.hid o0
  have HO1 := Lib.hid o1
  have HO2 := Lib.hid o2
  clear KB KR BL o0 o1 o2
  go_wp2_with (refine wpList_store_row rfl 26 (.tmp 2) (.tmp 15) rfl gR _ rfl rfl 26 _ HKR.out info_frame rfl (by simp [Value.oneCell']) ?_)
  refine bodyPost_ret (v := .agg #[.int .u64 k, .int .u64 id, .int .u64 off, .int .u64 n, .int .u64 cd, .bool fin, .slice A0 a.length c0, .slice A1 b.length c1, .slice A2 l.length c2]) (results_cell_row rfl _ _ gR 26 _ (0, 0) _ rfl (Blk.setRowP HKR.out) Tryd.underlying26 rfl (by kernel_rfl)) rfl ⟨A0, c0, A1, c1, A2, c2, rfl, ?_, ?_, ?_, ?_⟩
  · exact own_gs HO0.out HKR.out (by decide) grow_row
  · exact own_gs HO1.out HKR.out (by decide) grow_row
  · exact ownG_gs HO2.out HKR.out (by decide) grow_row
  · exact below_gs HBL.out grow_row hR HBL.out.size
theorem upto_rg (A : Option Addr) (n c k : Nat) (z : Int) (hz : z = k) (hk : k ≤ c) (w : World) :
    (Instr.slice 24 (.slice A n c) none (some (.int .i64 z)) none).run Tryd.prog w = .ok (.slice A k c) w := by
  subst hz
  have hel : Tryd.prog.elem 24 = 31 := by kernel_rfl
  have hs : (sizeOf 31).run Tryd.prog w = .ok 2 w := by
    obtain ⟨i0, hi0, hz0, hz1, hz2⟩ := info_parts info_range
    simp [sizeOf, typeInfo, hi0, hz1]
  rw [run_slice_h (P := Tryd.prog) w 24 A n c (by rw [hel]; exact Tryd.underlying24) .i64 (k : Int) (by omega) (by omega), hel, hs]
  cases A <;> simp [sliced, Addr.add]
def InvF (w : World) (gF gR : Nat) (F : Array Value) (W : World) : Prop := Blk W gF 26 F ∧ Blk W gR 26 (FC 0 0 0 0 0 false none 0 0 none 0 0 none 0 0) ∧ Below w.heap.size w W
def CutF (w : World) (gF gR : Nat) (k id off n cd : Int) (fin : Bool) (a2 b2 : List Int) (R : Option Addr) (lr cr : Nat) (wx : World) : Prop :=
  ∃ A1 c1 B1 d1, Blk wx gF 26 (FC k id off n cd fin A1 a2.length c1 B1 b2.length d1 R lr cr) ∧ Blk wx gR 26 (FC 0 0 0 0 0 false none 0 0 none 0 0 none 0 0) ∧ Own wx w.heap.size A1 c1 a2 ∧ Own wx w.heap.size B1 d1 b2 ∧ Below w.heap.size w wx
theorem fin_few {w W : World} {gF gR : Nat} {k id off n cd : Int} {fin : Bool} {a2 b2 : List Int} {A B A1 B1 R : Option Addr} {la ca lb cb lr cr c1 d1 : Nat} (oa : Own W w.heap.size A1 c1 a2) (ob : Own W w.heap.size B1 d1 b2)
    (i : InvF w gF gR (FC k id off n cd fin A la ca B lb cb R lr cr) W) (hF : w.heap.size ≤ gF) (hne : gR ≠ gF) :
    CutF w gF gR k id off n cd fin a2 b2 R lr cr ((W.setCell ⟨gF, 6, none⟩ (.slice A1 a2.length c1)).setCell ⟨gF, 7, none⟩ (.slice B1 b2.length d1)) := by
  obtain ⟨k1, k2, k3⟩ := i
  have K1 := fc6 k1 A1 a2.length c1
  have K2 := k2.far (p := ⟨gF, 6, none⟩) (u := .slice A1 a2.length c1) hne
  have K3 := below_gs k3 (@gset W gF 6 (.slice A1 a2.length c1)) hF k3.size
  have O1 := own_gs oa k1 (by decide) (@gset W gF 6 (.slice A1 a2.length c1))
  have O2 := own_gs ob k1 (by decide) (@gset W gF 6 (.slice A1 a2.length c1))
  generalize W.setCell ⟨gF, 6, none⟩ (.slice A1 a2.length c1) = W1 at *
  refine ⟨A1, c1, B1, d1, fc7 K1 B1 b2.length d1, K2.far (p := ⟨gF, 7, none⟩) (u := .slice B1 b2.length d1) hne, ?_, ?_, ?_⟩
  · exact own_gs O1 K1 (by decide) gset
  · exact own_gs O2 K1 (by decide) gset
  · exact below_gs K3 gset hF K3.size
set_option maxHeartbeats 3200000 in
theorem fewF_any (k id off n cd : Int) (fin : Bool) (A : Option Addr) (a : List Int) (ca : Nat) (B : Option Addr) (b : List Int) (cb : Nat) (R : Option Addr) (l : List (Int × Int)) (cr : Nat) (w : World)
    (ha : Sl w A ca a) (hb : Sl w B cb b) (hl : SlG w R cr l) :
    Calls Tryd.prog 5 #[.agg (FC k id off n cd fin A a.length ca B b.length cb R l.length cr)] w fun e w' => ∃ A' ca' B' cb' R' cr', e = .returned (.agg (FC k id off n cd fin A' (a.take 1300).length ca' B' (b.take 40).length cb' R' (l.take 30).length cr')) ∧
      Own w' w.heap.size A' ca' (a.take 1300) ∧ Own w' w.heap.size B' cb' (b.take 40) ∧ OwnG w' w.heap.size R' cr' (l.take 30) ∧ Below w.heap.size w w' := by
  have C1 := fun (W : World) (hx : Below w.heap.size w W) => cut_any A ca a 1300 W (ha.rd.below hx) (by have := ha.max; have := ha.le; omega) ha.le (by omega) (by omega)
  have C2 := fun (W : World) (hx : Below w.heap.size w W) => cut_any B cb b 40 W (hb.rd.below hx) (by have := hb.max; have := hb.le; omega) hb.le (by omega) (by omega)
  obtain ⟨a2, ha2⟩ : ∃ x, x = a.take (1300 : Int).toNat := ⟨_, rfl⟩
  obtain ⟨b2, hb2⟩ : ∃ x, x = b.take (40 : Int).toNat := ⟨_, rfl⟩
  obtain ⟨l2, hl2⟩ : ∃ x, x = l.take 30 := ⟨_, rfl⟩
  rw [← ha2] at C1
  rw [← hb2] at C2
  rw [show a.take 1300 = a2 from ha2.symm, show b.take 40 = b2 from hb2.symm, show l.take 30 = l2 from hl2.symm]
  have C1 := Lib.hid C1
  have C2 := Lib.hid C2
  have hll : l2.length = min l.length 30 := by rw [hl2, List.length_take]; omega
  have hl2r : RdG w R l2 := by rw [hl2]; have := hl.rd.upto (k := min l.length 30) (by omega); rwa [show l.take (min l.length 30) = l.take 30 by rcases Nat.le_total l.length 30 with h | h <;> simp [h, List.take_of_length_le]] at this
  have SL := upto_rg R l.length cr l2.length (l2.length : Int) rfl (by have := hl.le; omega)
  have Z1 : (if (l.length : Int) < 30 then (l.length : Int) else 30) = (l2.length : Int) := by rw [hll]; split <;> omega
  have Z2 : (if (30 : Int) < (l.length : Int) then (30 : Int) else (l.length : Int)) = (l2.length : Int) := by rw [hll]; split <;> omega
  have hl30 : l2.length ≤ 30 := by omega
  have HL2 := Lib.hid hl2r
  have HL := Lib.hid hl
  have hlm : (l.length : Int) ≤ 9223372036854775807 := by have := hl.le; have := hl.max; omega
  clear ha hb hl ha2 hb2 hl2 hl2r hll
  unfold FC
  go_enter Tryd.func5, Tryd.ntmps5
  go_upto_region 1 with (fail)
  have KB : Blk (((w.alloc (.cells #[.int .u64 k, .int .u64 id, .int .u64 off, .int .u64 n, .int .u64 cd, .bool fin, .slice A a.length ca, .slice B b.length cb, .slice R l.length cr] 26)).alloc (.cells #[.int .u64 0, .int .u64 0, .int .u64 0, .int .u64 0, .int .u64 0, .bool false, .slice none 0 0, .slice none 0 0, .slice none 0 0] 26))) w.heap.size 26 (FC k id off n cd fin A a.length ca B b.length cb R l.length cr) := (Blk.new w _ _).alloc _
  have KR : Blk (((w.alloc (.cells #[.int .u64 k, .int .u64 id, .int .u64 off, .int .u64 n, .int .u64 cd, .bool fin, .slice A a.length ca, .slice B b.length cb, .slice R l.length cr] 26)).alloc (.cells #[.int .u64 0, .int .u64 0, .int .u64 0, .int .u64 0, .int .u64 0, .bool false, .slice none 0 0, .slice none 0 0, .slice none 0 0] 26))) (w.heap.size + 1) 26 (FC 0 0 0 0 0 false none 0 0 none 0 0 none 0 0) := blk_2nd _ _ _ _
  have BL : Below w.heap.size w (((w.alloc (.cells #[.int .u64 k, .int .u64 id, .int .u64 off, .int .u64 n, .int .u64 cd, .bool fin, .slice A a.length ca, .slice B b.length cb, .slice R l.length cr] 26)).alloc (.cells #[.int .u64 0, .int .u64 0, .int .u64 0, .int .u64 0, .int .u64 0, .bool false, .slice none 0 0, .slice none 0 0, .slice none 0 0] 26))) := ((Below.refl _ _).alloc (Nat.le_refl _) _).alloc (by simp) _
  obtain ⟨gF, hgF⟩ : ∃ g, g = w.heap.size := ⟨_, rfl⟩
  obtain ⟨gR, hgR⟩ : ∃ g, g = w.heap.size + 1 := ⟨_, rfl⟩
  rw [← hgF] at KB
  rw [← hgR] at KR
  rw [show w.heap.size + 1 = gR from hgR.symm]
  generalize (((w.alloc (.cells #[.int .u64 k, .int .u64 id, .int .u64 off, .int .u64 n, .int .u64 cd, .bool fin, .slice A a.length ca, .slice B b.length cb, .slice R l.length cr] 26)).alloc (.cells #[.int .u64 0, .int .u64 0, .int .u64 0, .int .u64 0, .int .u64 0, .bool false, .slice none 0 0, .slice none 0 0, .slice none 0 0] 26))) = w1 at KB KR BL ⊢
  rw [show w.heap.size = gF from hgF.symm]
  have hF : w.heap.size ≤ gF := by omega
  have hR : w.heap.size ≤ gR := by omega
  have hne : gR ≠ gF := by omega
  have zF := KB.lt
  have zR := KR.lt
  clear hgF hgR
  have k6 := KB.cell 6
  have k7 := KB.cell 7
  simp only [FC] at k6 k7
  have D1 := Lib.hid (show ∀ W, InvF w gF gR (FC k id off n cd fin A a.length ca B b.length cb R l.length cr) W → Calls Tryd.prog 10 #[.slice A a.length ca, .int .i64 1300] W fun r w' => ∃ A' c', r = .returned (.slice A' a2.length c') ∧ Own w' w.heap.size A' c' a2 ∧ InvF w gF gR (FC k id off n cd fin A a.length ca B b.length cb R l.length cr) w' ∧ Below W.heap.size W w' from fun W ⟨i1, i2, i3⟩ => (C1.out W i3).mono fun r w' ⟨A', c', h1, h2, h3⟩ => ⟨A', c', h1, h2.base_le' i3.size, ⟨i1.below h3 i1.lt, i2.below h3 i2.lt, i3.trans (h3.mono i3.size)⟩, h3⟩)
  have D2 := Lib.hid (show ∀ W, InvF w gF gR (FC k id off n cd fin A a.length ca B b.length cb R l.length cr) W → Calls Tryd.prog 10 #[.slice B b.length cb, .int .i64 40] W fun r w' => ∃ A' c', r = .returned (.slice A' b2.length c') ∧ Own w' w.heap.size A' c' b2 ∧ InvF w gF gR (FC k id off n cd fin A a.length ca B b.length cb R l.length cr) w' ∧ Below W.heap.size W w' from fun W ⟨i1, i2, i3⟩ => (C2.out W i3).mono fun r w' ⟨A', c', h1, h2, h3⟩ => ⟨A', c', h1, h2.base_le' i3.size, ⟨i1.below h3 i1.lt, i2.below h3 i2.lt, i3.trans (h3.mono i3.size)⟩, h3⟩)
  have I0 : InvF w gF gR (FC k id off n cd fin A a.length ca B b.length cb R l.length cr) w1.drew := ⟨KB, KR, BL.drew⟩
  clear KB KR BL C1 C2
  go_cut [] (fun wx => CutF w gF gR k id off n cd fin a2 b2 R l.length cr wx)
  case first =>
    go_region_with (first
      | (go_at_call 10
         (with_reducible refine (D1.out _ (by assumption)).mono ?_)
         rintro e wa ⟨Aa, c1, rfl, oa, ia, ba⟩
         have ka := ia.1
         have qa6 := ka.cell 6
         have qa7 := ka.cell 7
         have fa6 := ka.frozen 6
         have fa7 := ka.frozen 7
         simp only [FC] at qa6 qa7)
      | (go_at_call 10
         (with_reducible refine (D2.out _ (by assumption)).mono ?_)
         rintro e wb ⟨Ab, d1, rfl, ob, ib, bb⟩
         have kb := ib.1
         have qb6 := kb.cell 6
         have qb7 := kb.cell 7
         have fb6 := kb.frozen 6
         have fb7 := kb.frozen 7
         simp only [FC] at qb6 qb7))
    all_goals (
      go_wp2_with fail
      go_meet
      first
        | (with_reducible exact fin_few (Own.below oa bb) ob ib hF hne)
        | (with_reducible exact fin_few oa (Own.below ob ba) ia hF hne))
  case rest =>
    obtain ⟨A0, c0, A1, c1, KB, KR, o0, o1, BL⟩ := hcut
    have zF := KB.lt
    have zR := KR.lt
    have d8 := KB.cell 8
    simp only [FC] at d8
    have HKB := Lib.hid KB
    have HKR := Lib.hid KR
    have HBL := Lib.hid BL
    have HO0 := Lib.hid o0
    have HO1 := Lib.hid o1
    clear KB KR BL o0 o1 k6 k7 I0 D1 D2
    go_upto_region 3 with (at_builtin; go_must (refine wpList_appV rfl (.tmp 11) (.tmp 18) 24 31 2 16 (.agg #[.int .u64 0, .int .u64 0]) rfl Tryd.underlying24 info_range rfl (by omega) wc.heap.size (n := 0) (m := l2.length) (xs := []) (news := RgV l2) (d := cr) rfl rfl (own_g0 wc (Nat.le_refl _)) ((HL2.out.below HBL.out).alloc _) (RgV_one _) (by unfold maxLen; omega) (by omega) (by simp) ?_); intro A2 c2 w2 hown hg hb; have f8 := (HKB.out.below (((Below.refl wc.heap.size wc).alloc (Nat.le_refl _) _).trans hb) zF).frozen 8; have z2 := (HKB.out.below (((Below.refl wc.heap.size wc).alloc (Nat.le_refl _) _).trans hb) zF).lt; have e8 := (HKB.out.below (((Below.refl wc.heap.size wc).alloc (Nat.le_refl _) _).trans hb) zF).cell 8; simp only [FC] at e8)
    have hB := ((Below.refl wc.heap.size wc).alloc (Nat.le_refl _) (.cells #[] 31)).trans hb
    have K2 := HKB.out.below hB zF
    have KR2 := HKR.out.below hB zR
    have p0 := Own.below HO0.out hB
    have p1 := Own.below HO1.out hB
    have p2 : OwnG w2 w.heap.size A2 c2 l2 := OwnG.base_le (base := wc.heap.size) (by simpa [OwnG] using hown) HBL.out.size
    have B2 := HBL.out.trans (hB.mono HBL.out.size)
    have KB := fc8 K2 A2 l2.length c2
    have KR := KR2.far (p := ⟨gF, 8, none⟩) (u := .slice A2 l2.length c2) hne
    have o0 := own_gs p0 K2 (by decide) (@gset w2 gF 8 (.slice A2 l2.length c2))
    have o1 := own_gs p1 K2 (by decide) (@gset w2 gF 8 (.slice A2 l2.length c2))
    have o2 := ownG_gs p2 K2 (by decide) (@gset w2 gF 8 (.slice A2 l2.length c2))
    have BL := below_gs B2 (@gset w2 gF 8 (.slice A2 l2.length c2)) hF B2.size
    clear hB K2 KR2 p0 p1 p2 B2 hown hg hb f8 z2 e8 HKB HKR HBL HO0 HO1 d8
    generalize w2.setCell ⟨gF, 8, none⟩ (.slice A2 l2.length c2) = w3 at KB KR BL o0 o1 o2 ⊢
    have d0 := KB.cell 0
    have d1 := KB.cell 1
    have d2 := KB.cell 2
    have d3 := KB.cell 3
    have d4 := KB.cell 4
    have d5 := KB.cell 5
    have d6 := KB.cell 6
    have d7 := KB.cell 7
    have d8 := KB.cell 8
    simp only [FC] at d0 d1 d2 d3 d4 d5 d6 d7 d8
    have HKR := Lib.hid KR
    have HBL := Lib.hid BL
    have HO0 := Lib.hid o0
    have HO1 := Lib.hid o1
    have HO2 := Lib.hid o2
    clear KB KR BL o0 o1 o2
    go_wp2_with (refine wpList_store_row rfl 26 (.tmp 2) (.tmp 21) rfl gR _ rfl rfl 26 _ HKR.out info_frame rfl (by simp [Value.oneCell']) ?_)
    refine bodyPost_ret (v := .agg #[.int .u64 k, .int .u64 id, .int .u64 off, .int .u64 n, .int .u64 cd, .bool fin, .slice A0 a2.length c0, .slice A1 b2.length c1, .slice A2 l2.length c2]) (results_cell_row rfl _ _ gR 26 _ (0, 0) _ rfl (Blk.setRowP HKR.out) Tryd.underlying26 rfl (by kernel_rfl)) rfl ⟨A0, c0, A1, c1, A2, c2, rfl, ?_, ?_, ?_, ?_⟩
    · exact own_gs HO0.out HKR.out (by decide) grow_row
    · exact own_gs HO1.out HKR.out (by decide) grow_row
    · exact ownG_gs HO2.out HKR.out (by decide) grow_row
    · exact below_gs HBL.out grow_row hR HBL.out.size
end Go.Proofs.YtanfijgjcbflbaaDoor
