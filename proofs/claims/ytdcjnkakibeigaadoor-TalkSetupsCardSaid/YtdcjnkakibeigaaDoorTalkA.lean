/-
  talk: the small functions: slices.Clone of numbers, clone, isRequest, about, newSide, next, full, collides.
-/
import Derived.Test.YtdcjnkakibeigaaDoorOpenMsg
import Derived.Test.YtdcjnkakibeigaaDoorMapE
import Derived.Test.YtdcjnkakibeigaaDoorStepV
import Derived.Test.YtdcjnkakibeigaaDoorFlat
import Derived.Deep.QuietTactic
import Derived.BigQuiet
import Derived.Deep.DeepCutAuto
import Derived.Deep.CutBlock
namespace Go.Proofs.YtdcjnkakibeigaaDoor
open Go.RowKit
set_option linter.unusedVariables false
set_option linter.unusedSimpArgs false
theorem ownU_0 (w : World) {base : Nat} (hb : base ≤ w.heap.size) : OwnV (w.alloc (.cells #[] 22)) base 22 1 (some ⟨w.heap.size, 0, none⟩) 0 0 [] :=
  ⟨by simp, .inr ⟨w.heap.size, 0, #[], rfl, hb, Blk.new w _ _, Nat.le_refl _, by simp, by simp, by simp⟩⟩
theorem info_u64T : (Tryd.prog.info? 22).map (fun i => (i.zero, i.size, i.bytes)) = some (some (.int .u64 0), 1, 8) := by kernel_rfl
theorem IV_one (l : List Int) : ∀ u ∈ IV .u64 l, u.oneCell' = true := by
  intro u hu
  unfold IV at hu
  obtain ⟨x, _, rfl⟩ := List.mem_map.1 hu
  rfl
set_option maxHeartbeats 800000 in
theorem cloneU_any (A : Option Addr) (c : Nat) (l : List Int) (w : World) (hr : RdI .u64 w A l) (hl : l.length ≤ 1000000) (hA : A = none → l = [] ∧ c = 0) :
    Calls Tryd.prog 40 #[.slice A l.length c] w fun e w' => ∃ A' c', e = .returned (.slice A' l.length c') ∧ OwnV w' w.heap.size 22 1 A' c' l.length (IV .u64 l) ∧ Below w.heap.size w w' := by
  have qT := fun (w : World) (a : Option Addr) (n c : Nat) => Lib.run_eql_slice_nil (P := Tryd.prog) w _ _ a n c 0 0 Tryd.underlying26
  cases A with
  | none =>
    obtain ⟨rfl, rfl⟩ := hA rfl
    go_enter Tryd.func40, Tryd.ntmps40
    go_wp2
    go_ret
    exact ⟨none, 0, rfl, OwnV.nil _ _ _ _, Below.refl _ _⟩
  | some a =>
    clear hA
    go_enter Tryd.func40, Tryd.ntmps40
    go_wp2_with (at_builtin; go_must (refine wpList_appV rfl (.tmp 5) (.tmp 6) 26 22 1 8 (.int .u64 0) rfl Tryd.underlying26 info_u64T rfl (by omega) w.heap.size (n := 0) (m := l.length) (xs := []) (news := IV .u64 l) (d := c) rfl rfl (ownU_0 w (Nat.le_refl _)) (RdI.alloc hr _) (IV_one l) (by unfold maxLen; omega) (by omega) (by simp) ?_); intro A' c' w' hown hg hb)
    go_ret
    refine ⟨A', c', by simp, ?_, ((Below.refl _ _).alloc (Nat.le_refl _) _).trans hb⟩
    have := hown
    rw [Nat.zero_add, List.nil_append] at this
    exact this
theorem isRequest_any (k : Int) (w : World) : Calls Tryd.prog 35 #[.int .u64 k] w fun r w' => r = .returned (.bool (k == 3 || k == 6 || k == 22)) ∧ w = w' := by
  go_enter Tryd.func35, Tryd.ntmps35
  go_wp2_with fail
  all_goals
    go_ret
    refine ⟨?_, rfl⟩
    simp_all
/-- The cells of a side. -/
def sdC (first may : Int) (mA : Option Addr) (mn mc : Nat) (lA : Option Addr) (ln lc : Nat) (B : Nat) : Array Value :=
  #[.int .u64 first, .int .u64 may, .slice mA mn mc, .slice lA ln lc, .map (some B)]
theorem info_side : (Tryd.prog.info? 64).map (·.size) = some 5 := by kernel_rfl
theorem setRowT {w : World} {g : Nat} {t : TypeId} {cs : Array Value} (h : Blk w g t cs) (cs' : Array Value) : Blk (w.setRow g cs') g t cs' := by
  unfold Blk at h ⊢
  simp [World.setRow, Array.getElem?_modify, h]
theorem setRow_farT {w : World} {g g2 : Nat} {t : TypeId} {cs : Array Value} (h : Blk w g t cs) (hn : g ≠ g2) (cs' : Array Value) : Blk (w.setRow g2 cs') g t cs := by
  unfold Blk at h ⊢
  exact (setRow_other w g2 g cs' hn).trans h
theorem only_setRowT (w : World) (g : Nat) (cs : Array Value) : w.grownBy (w.setRow g cs) (some g) :=
  ⟨rfl, rfl, rfl, by simp, fun i hi hne => setRow_other w g i cs (fun e => hne (by rw [e]))⟩
set_option maxHeartbeats 800000 in
theorem newSide_any (b : Bool) (w : World) : Calls Tryd.prog 32 #[.bool b] w fun r w' => ∃ B, r = .returned (.agg (sdC (if b then 1 else 0) 0 none 0 0 none 0 0 B)) ∧ MapE w' B 0 [] ∧ w.heap.size ≤ B ∧ Below w.heap.size w w' := by
  have zm : ∀ w, (Instr.makeMap 62 none).run Tryd.prog w = .ok (.map (some w.heap.size)) (w.alloc (.map #[] 0)) := fun w => by kernel_rfl
  obtain ⟨W, hW⟩ : ∃ W, W = ((w.alloc (.cells #[.int .u64 0, .int .u64 0, .slice none 0 0, .slice none 0 0, .map none] 64)).alloc (.map #[] 0)).alloc (.cells #[.int .u64 0, .int .u64 0, .slice none 0 0, .slice none 0 0, .map none] 64) := ⟨_, rfl⟩
  have M := Lib.hid (show MapE W (w.heap.size + 1) 0 [] by rw [hW]; exact MapE.alloc (by simpa using MapE.made (w.alloc (.cells #[.int .u64 0, .int .u64 0, .slice none 0 0, .slice none 0 0, .map none] 64))) _)
  have L := Lib.hid (show Blk W w.heap.size 64 #[.int .u64 0, .int .u64 0, .slice none 0 0, .slice none 0 0, .map none] by rw [hW]; exact ((Blk.new _ _ _).alloc _).alloc _)
  have K := Lib.hid (show Blk W (w.heap.size + 1 + 1) 64 #[.int .u64 0, .int .u64 0, .slice none 0 0, .slice none 0 0, .map none] by rw [hW]; simpa using Blk.new ((w.alloc (.cells #[.int .u64 0, .int .u64 0, .slice none 0 0, .slice none 0 0, .map none] 64)).alloc (.map #[] 0)) 64 #[.int .u64 0, .int .u64 0, .slice none 0 0, .slice none 0 0, .map none])
  have b1 := Lib.hid (show Below w.heap.size w W by rw [hW]; exact (((Below.refl _ _).alloc (Nat.le_refl _) _).alloc (by simp) _).alloc (by simp; omega) _)
  obtain ⟨SC, hSC⟩ : ∃ SC, SC = sdC 0 0 none 0 0 none 0 0 (w.heap.size + 1) := ⟨_, rfl⟩
  have HSC := Lib.hid hSC
  have HSA := Lib.hid (show Value.agg #[.int .u64 0, .int .u64 0, .slice none 0 0, .slice none 0 0, .map (some (w.heap.size + 1))] = .agg SC by rw [hSC]; rfl)
  have HS1 := Lib.hid (show SC.all (·.oneCell') = true by rw [hSC]; simp [sdC, Value.oneCell'])
  have HW := Lib.hid hW
  clear hW hSC
  go_enter Tryd.func32, Tryd.ntmps32
  go_upto_region 2 with (rw [← HW.out]; refine wpList_store_row rfl 64 (.tmp 3) (.tmp 5) rfl (w.heap.size + 1 + 1) SC rfl HSA.out 64 _ K.out (by rw [HSC.out]; exact info_side) (by rw [HSC.out]; rfl) HS1.out ?_)
  obtain ⟨w4, hw4⟩ : ∃ w4, w4 = W.setRow (w.heap.size + 1 + 1) SC := ⟨_, rfl⟩
  have K4 := Lib.hid (show Blk w4 (w.heap.size + 1 + 1) 64 #[.int .u64 0, .int .u64 0, .slice none 0 0, .slice none 0 0, .map (some (w.heap.size + 1))] by rw [hw4]; have := setRowT K.out SC; rw [HSC.out] at this ⊢; exact this)
  have L4 := Lib.hid (show Blk w4 w.heap.size 64 #[.int .u64 0, .int .u64 0, .slice none 0 0, .slice none 0 0, .map none] by rw [hw4]; exact setRow_farT L.out (by omega) SC)
  have M4 := Lib.hid (show MapE w4 (w.heap.size + 1) 0 [] by rw [hw4]; exact M.out.kept (only_setRowT _ _ SC) (by simp))
  have B4 := Lib.hid (show Below w.heap.size w w4 by rw [hw4]; exact ⟨b1.out.os, b1.out.tape, b1.out.output, by simpa using b1.out.size, fun i hi => (setRow_other W (w.heap.size + 1 + 1) i SC (by omega)).trans (b1.out.block i hi)⟩)
  rw [← hw4]
  clear hw4 M L K b1 HSC HSA HS1 HW
  cases b with
  | false =>
    have d0 := K4.out.cell 0
    have d1 := K4.out.cell 1
    have d2 := K4.out.cell 2
    have d3 := K4.out.cell 3
    have d4 := K4.out.cell 4
    have zd := K4.out.lt
    simp only [List.getElem?_toArray, List.getElem?_cons_zero, List.getElem?_cons_succ] at d0 d1 d2 d3 d4
    obtain ⟨OC, hOC⟩ : ∃ OC, OC = sdC 0 0 none 0 0 none 0 0 (w.heap.size + 1) := ⟨_, rfl⟩
    have HOC := Lib.hid hOC
    have HAG := Lib.hid (show Value.agg #[.int .u64 0, .int .u64 0, .slice none 0 0, .slice none 0 0, .map (some (w.heap.size + 1))] = .agg OC by rw [hOC]; rfl)
    have HO1 := Lib.hid (show OC.all (·.oneCell') = true by rw [hOC]; simp [sdC, Value.oneCell'])
    clear hOC
    go_wp2_with (refine wpList_store_row rfl 64 (.tmp 2) (.tmp 8) rfl w.heap.size OC rfl HAG.out 64 _ L4.out (by rw [HOC.out]; exact info_side) (by rw [HOC.out]; rfl) HO1.out ?_)
    refine bodyPost_ret (v := .agg OC) (results_cell_row rfl _ _ w.heap.size 64 _ (0, 0) _ rfl (setRowT L4.out OC) Tryd.underlying64 rfl (by rw [HOC.out]; exact info_side)) rfl ?_
    refine ⟨w.heap.size + 1, by rw [HOC.out]; try rfl, M4.out.kept (only_setRowT _ _ OC) (by simp), by omega, ⟨B4.out.os, B4.out.tape, B4.out.output, by simpa using B4.out.size, fun i hi => (setRow_other w4 w.heap.size i OC (by omega)).trans (B4.out.block i hi)⟩⟩
  | true =>
    have k5 := K4.out.set_ 0 (.int .u64 1)
    have L5 := Lib.hid (L4.out.far (p := ⟨w.heap.size + 1 + 1, 0, none⟩) (by show w.heap.size ≠ w.heap.size + 1 + 1; omega) (.int .u64 1))
    have M5 := Lib.hid (M4.out.kept (only_set (only_refl w4 (some (w.heap.size + 1 + 1))) (p := ⟨w.heap.size + 1 + 1, 0, none⟩) rfl (.int .u64 1)) (by simp))
    have B5 := Lib.hid (B4.out.setCell (p := ⟨w.heap.size + 1 + 1, 0, none⟩) (by show w.heap.size ≤ w.heap.size + 1 + 1; omega) (.int .u64 1))
    have d0 := K4.out.cell 0
    have f0 := K4.out.frozen 0
    simp only [List.getElem?_toArray, List.getElem?_cons_zero, List.getElem?_cons_succ] at d0
    have z0 := K4.out.lt
    obtain ⟨w5, hw5⟩ : ∃ w5, w5 = w4.setCell ⟨w.heap.size + 1 + 1, 0, none⟩ (.int .u64 1) := ⟨_, rfl⟩
    go_upto_region 4 with (fail)
    rw [← hw5] at k5 L5 M5 B5 ⊢
    have K5 := Lib.hid (show Blk w5 (w.heap.size + 1 + 1) 64 #[.int .u64 1, .int .u64 0, .slice none 0 0, .slice none 0 0, .map (some (w.heap.size + 1))] from k5)
    clear hw5 d0 f0 z0 k5 K4 L4 M4 B4
    have d0 := K5.out.cell 0
    have d1 := K5.out.cell 1
    have d2 := K5.out.cell 2
    have d3 := K5.out.cell 3
    have d4 := K5.out.cell 4
    have zd := K5.out.lt
    simp only [List.getElem?_toArray, List.getElem?_cons_zero, List.getElem?_cons_succ] at d0 d1 d2 d3 d4
    obtain ⟨OC, hOC⟩ : ∃ OC, OC = sdC 1 0 none 0 0 none 0 0 (w.heap.size + 1) := ⟨_, rfl⟩
    have HOC := Lib.hid hOC
    have HAG := Lib.hid (show Value.agg #[.int .u64 1, .int .u64 0, .slice none 0 0, .slice none 0 0, .map (some (w.heap.size + 1))] = .agg OC by rw [hOC]; rfl)
    have HO1 := Lib.hid (show OC.all (·.oneCell') = true by rw [hOC]; simp [sdC, Value.oneCell'])
    clear hOC
    go_wp2_with (refine wpList_store_row rfl 64 (.tmp 2) (.tmp 8) rfl w.heap.size OC rfl HAG.out 64 _ L5.out (by rw [HOC.out]; exact info_side) (by rw [HOC.out]; rfl) HO1.out ?_)
    refine bodyPost_ret (v := .agg OC) (results_cell_row rfl _ _ w.heap.size 64 _ (0, 0) _ rfl (setRowT L5.out OC) Tryd.underlying64 rfl (by rw [HOC.out]; exact info_side)) rfl ?_
    refine ⟨w.heap.size + 1, by rw [HOC.out]; try rfl, M5.out.kept (only_setRowT _ _ OC) (by simp), by omega, ⟨B5.out.os, B5.out.tape, B5.out.output, by simpa using B5.out.size, fun i hi => (setRow_other w5 w.heap.size i OC (by omega)).trans (B5.out.block i hi)⟩⟩
end Go.Proofs.YtdcjnkakibeigaaDoor
