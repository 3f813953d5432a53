/-
  The reference's Few and Same of objects that are alike.
-/
import Derived.Test.YtpaglcojbcndoaaDoorItemF
namespace Go.Proofs.YtpaglcojbcndoaaDoor
open Go.RowKit
set_option linter.unusedVariables false
set_option linter.unusedSimpArgs false
def cutO (o : OV) : OV := { o with data := o.data.take 2100 }
structure FewO (w w' : World) (o : OV) (r : Ending) : Prop where
  ex : ∃ A c, r = .returned (.agg (ovC (cutO o) A c)) ∧ Own w' w.heap.size A c (cutO o).data
  bel : Below w.heap.size w w'
set_option maxHeartbeats 1600000 in
theorem fewO_any (o : OV) (A : Option Addr) (c : Nat) (w : World) (h : Sl w A c o.data) :
    Calls Tryd.prog 9 #[.agg (ovC o A c)] w fun r w' => FewO w w' o r := by
  obtain ⟨P9, hP9⟩ : ∃ P9 : World → Ending → Prop, P9 = fun w' r => FewO w w' o r := ⟨_, rfl⟩
  have HP := Lib.hid hP9
  rw [show (fun r w' => FewO w w' o r) = fun r w' => P9 w' r by rw [hP9]]
  obtain ⟨grp, obj, prio, gram, data⟩ := o
  unfold ovC
  simp only at h ⊢
  obtain ⟨W, hW⟩ : ∃ W, W = (w.alloc (.cells #[.int .u64 grp, .int .u64 obj, .int .u8 prio, .bool gram, .slice A data.length c] 27)).alloc (.cells zeroO 27) := ⟨_, rfl⟩
  have bw : Below w.heap.size w W := by rw [hW]; exact ((Below.refl _ _).alloc (Nat.le_refl _) _).alloc (by simp) _
  have K0 := Lib.hid (show Blk W w.heap.size 27 #[.int .u64 grp, .int .u64 obj, .int .u8 prio, .bool gram, .slice A data.length c] by rw [hW]; exact (Blk.new _ _ _).alloc _)
  have K1 := Lib.hid (show Blk W (w.heap.size + 1) 27 zeroO by
    rw [hW]
    have := Blk.new (w.alloc (.cells #[.int .u64 grp, .int .u64 obj, .int .u8 prio, .bool gram, .slice A data.length c] 27)) 27 zeroO
    simpa using this)
  have CC := Lib.hid (cut_any A c data 2100 W (Rd.below h.rd bw) (by have := h.le; have := h.max; omega) h.le (by decide) (by decide))
  obtain ⟨D, hD⟩ : ∃ D, D = data.take (2100 : Int).toNat := ⟨_, rfl⟩
  rw [← hD] at CC
  have HD := Lib.hid (show D = data.take 2100 from hD)
  have BW := Lib.hid bw
  have k4 := K0.out.cell 4
  have f4 := K0.out.frozen 4
  have z0 := K0.out.lt
  simp only [List.getElem?_toArray, List.getElem?_cons_zero, List.getElem?_cons_succ] at k4
  unfold zeroO at hW
  have HW := Lib.hid hW
  clear hW bw hD h hP9
  go_enter Tryd.func9, Tryd.ntmps9
  go_upto_region 1 with (fail)
  rw [← HW.out]
  go_wp2_with fail
  refine CC.out.mono ?_
  rintro e w2 ⟨A2, c2, rfl, o2, b2⟩
  have K2 := K0.out.below b2 K0.out.lt
  have L2 := Lib.hid (K1.out.below b2 K1.out.lt)
  have k4 := K2.cell 4
  have f4 := K2.frozen 4
  have z0 := K2.lt
  have gs : w2.grownBy (w2.setCell ⟨w.heap.size, 4, none⟩ (.slice A2 D.length c2)) (some w.heap.size) := only_set (only_refl w2 (some w.heap.size)) (p := ⟨w.heap.size, 4, none⟩) rfl _
  have O3 := Lib.hid (Own.grown o2 gs (fun k cur hb e => by injection e with e; exact Blk.ne_ K2 hb (by decide) e))
  have K3 := Lib.hid (show Blk (w2.setCell ⟨w.heap.size, 4, none⟩ (.slice A2 D.length c2)) w.heap.size 27 #[.int .u64 grp, .int .u64 obj, .int .u8 prio, .bool gram, .slice A2 D.length c2] from K2.set_ 4 (.slice A2 D.length c2))
  have L3 := Lib.hid (L2.out.far (p := ⟨w.heap.size, 4, none⟩) (by show w.heap.size + 1 ≠ w.heap.size; omega) (.slice A2 D.length c2))
  have B3 := Lib.hid ((BW.out.trans (b2.mono BW.out.size)).setCell (p := ⟨w.heap.size, 4, none⟩) (Nat.le_refl _) (.slice A2 D.length c2))
  obtain ⟨w3, hw3⟩ : ∃ w3, w3 = w2.setCell ⟨w.heap.size, 4, none⟩ (.slice A2 D.length c2) := ⟨_, rfl⟩
  simp only [List.getElem?_toArray, List.getElem?_cons_zero, List.getElem?_cons_succ] at k4
  go_upto_region 2 with (fail)
  rw [← hw3] at O3 K3 L3 B3 ⊢
  have d0 := K3.out.cell 0
  have d1 := K3.out.cell 1
  have d2 := K3.out.cell 2
  have d3 := K3.out.cell 3
  have d4 := K3.out.cell 4
  have zd := K3.out.lt
  simp only [List.getElem?_toArray, List.getElem?_cons_zero, List.getElem?_cons_succ] at d0 d1 d2 d3 d4
  clear hw3 k4 f4 z0 gs o2 b2 CC K0 K1 K2 L2
  obtain ⟨OC, hOC⟩ : ∃ OC, OC = ovC (cutO ⟨grp, obj, prio, gram, data⟩) A2 c2 := ⟨_, rfl⟩
  have HOC := Lib.hid hOC
  have HAG := Lib.hid (show Value.agg #[.int .u64 grp, .int .u64 obj, .int .u8 prio, .bool gram, .slice A2 D.length c2] = .agg OC by rw [hOC, HD.out]; rfl)
  have HO1 := Lib.hid (show OC.all (·.oneCell') = true by rw [hOC]; simp [ovC, Value.oneCell'])
  clear hOC
  go_wp2_with (refine wpList_store_row rfl 27 (.tmp 2) (.tmp 7) rfl (w.heap.size + 1) OC rfl HAG.out 27 _ L3.out (by rw [HOC.out]; exact info_obj) (by rw [HOC.out]; rfl) HO1.out ?_)
  refine bodyPost_ret (v := .agg OC) (results_cell_row rfl _ _ (w.heap.size + 1) 27 _ (0, 0) _ rfl (setRowI L3.out OC) Tryd.underlying27 rfl (by rw [HOC.out]; exact info_obj)) rfl ?_
  show P9 _ _
  rw [HP.out]
  have gr : w3.grownBy (w3.setRow (w.heap.size + 1) OC) (some (w.heap.size + 1)) := only_setRowI _ _ _
  refine ⟨⟨A2, c2, by rw [HOC.out], ?_⟩, ⟨B3.out.os, B3.out.tape, B3.out.output, by simpa using B3.out.size, fun i hi => (setRow_other w3 (w.heap.size + 1) i OC (by omega)).trans (B3.out.block i hi)⟩⟩
  have o4 := Own.grown O3.out gr (fun k cur hb e => by injection e with e; exact Blk.ne_ L3.out hb (by decide) e)
  rw [HD.out] at o4
  exact Own.base_leI o4 BW.out.size
structure RO where
  o : OV
  A : Option Addr
  c : Nat
def ROC (x : RO) : List Value := (ovC x.o x.A x.c).toList
theorem ROC_len (x : RO) : (ROC x).length = 5 := rfl
set_option maxHeartbeats 3200000 in
theorem sameO_yes (A B : Option Addr) (c d : Nat) (xs ys : List RO) (w : World) (hx : RdF ROC 5 w A xs) (hy : RdF ROC 5 w B ys) (he : xs.map RO.o = ys.map RO.o) (hdx : ∀ x ∈ xs, Rd w x.A x.o.data ∧ Bytes x.o.data) (hdy : ∀ y ∈ ys, Rd w y.A y.o.data) (hxl : xs.length ≤ 1000000) :
    Calls Tryd.prog 14 #[.slice A xs.length c, .slice B ys.length d] w fun r w' => r = .returned (.bool true) ∧ ∃ n, w' = w.drewN n := by
  have hl : ys.length = xs.length := by have := congrArg List.length he; simpa using this.symm
  have HX := Lib.hid hx
  have HY := Lib.hid hy
  have HE := Lib.hid (show ∀ (k : Nat) (x y : RO), xs[k]? = some x → ys[k]? = some y → x.o = y.o from fun k x y h1 h2 => by
    have := congrArg (fun l => l[k]?) he
    simp only [List.getElem?_map, h1, h2] at this
    simpa using this)
  have HDX := Lib.hid (fun (k : Nat) (x : RO) (h : xs[k]? = some x) => hdx x (List.mem_of_getElem? h))
  have HDY := Lib.hid (fun (k : Nat) (y : RO) (h : ys[k]? = some y) => hdy y (List.mem_of_getElem? h))
  rw [hl]
  have HL := Lib.hid hl
  clear hx hy he hdx hdy hl
  go_enter Tryd.func14, Tryd.ntmps14
  go_wp2_with fail
  go_loopw [13] (fun iv wr => ∃ (k : Nat), iv = .int .i64 k ∧ k ≤ xs.length ∧ ∃ n, wr = w.drewN n) (fun iv _ => xs.length - (intOf iv).toNat)
  case atStart => exact ⟨0, rfl, by omega, 0, rfl⟩
  case round =>
    obtain ⟨k, rfl, hk, n0, hw⟩ := hrel
    rename World => wr
    have HW := Lib.hid hw
    have keep : ∀ a, wr.cell? a = w.cell? a := fun a => by rw [hw]; rfl
    clear hw
    by_cases hlt : k < xs.length
    · obtain ⟨b1, o1, x, rfl, _, hxk, cx⟩ := RdF.at_ (C := ROC) (k := 5) ROC_len (by omega) (show Reads w w.heap.size 5 A xs.length (FlV ROC xs) from HX.out) hlt
      obtain ⟨b2, o2, y, rfl, _, hyk, cy⟩ := RdF.at_ (C := ROC) (k := 5) ROC_len (by omega) (show Reads w w.heap.size 5 B ys.length (FlV ROC ys) from HY.out) (show k < ys.length by rw [HL.out]; exact hlt)
      have hxy := HE.out k x y hxk hyk
      have h1 := HDX.out k x hxk
      have h2 := HDY.out k y hyk
      obtain ⟨⟨grp, obj, prio, gram, data⟩, A1, c1⟩ := x
      obtain ⟨oy, A2, c2⟩ := y
      simp only at hxy
      subst hxy
      have S := Lib.hid (show ∀ n, Calls Tryd.prog 15 #[.slice A1 data.length c1, .slice A2 data.length c2] (wr.drewN n) fun e w' => e = .returned (.bool true) ∧ w' = wr.drewN n from fun n => by
        have := same_any A1 A2 c1 c2 data data (wr.drewN n) (by rw [HW.out]; exact h1.1) (by rw [HW.out]; exact h2) h1.2 h1.2
        rw [show sameB data data = true by simp [sameB]] at this
        exact this.mono (by rintro e w' ⟨rfl, rfl⟩; exact ⟨rfl, rfl⟩))
      have p0 := (keep _).trans (cx 0 (by omega))
      have p1 := (keep _).trans (cx 1 (by omega))
      have p2 := (keep _).trans (cx 2 (by omega))
      have p3 := (keep _).trans (cx 3 (by omega))
      have p4 := (keep _).trans (cx 4 (by omega))
      have r0 := (keep _).trans (cy 0 (by omega))
      have r1 := (keep _).trans (cy 1 (by omega))
      have r2 := (keep _).trans (cy 2 (by omega))
      have r3 := (keep _).trans (cy 3 (by omega))
      have r4 := (keep _).trans (cy 4 (by omega))
      simp [ROC, ovC, ← Nat.add_assoc] at p0 p1 p2 p3 p4 r0 r1 r2 r3 r4
      clear cx cy hxk hyk h1 h2 keep
      go_wp2_with fail
      go_quiet ((go_at_call 15; exact Calls.quiet_of_same (S.out _)))
      go_wp2_with fail
      go_roundw
      case rel => exact ⟨k + 1, by go_num, by omega, _, by rw [HW.out, World.drewN_drewN]⟩
      case measure => simp [intOf]; omega
    · have hd : decide (k < xs.length) = false := by simpa using hlt
      go_wp2_with fail
      go_ret
      exact ⟨rfl, n0, HW.out⟩
end Go.Proofs.YtpaglcojbcndoaaDoor
