/-
  turn: slices.symMergeCmpFunc at places: one element on the right (made by mkTurnM.py).
-/
import Derived.Test.YtchohcfcnghmlaaTurnK
namespace Go.Proofs.Ytchohcfcnghmlaa
open Go.RowKit
set_option linter.unusedVariables false
set_option linter.unusedSimpArgs false
set_option maxRecDepth 20000 in
set_option maxHeartbeats 6400000 in
theorem symMerge_2 (l : List R3) (f : Nat) (cb : Array Value) (w0 : World) (A : Option Addr) (c a m b N : Nat) (D : List Nat) (W : World) (cm : Cmp l N w0 f cb) (h : RowN W w0.heap.size A c D) (hw : Below w0.heap.size w0 W) (hN : D.length = N) (hN2 : N ≤ 1000) (ham : a < m) (hmb : m < b) (hb : b ≤ N) (hlt : ∀ v ∈ D, v < N) (h1 : Srt l D a m) (h2 : Srt l D m b) (hli : LI D a m b) (hn1 : ¬ m = a + 1) (hone : b = m + 1) :
    Calls Try.prog 24 #[.slice A N c, .int .i64 (a : Int), .int .i64 (m : Int), .int .i64 (b : Int), .func (.func f) #[] cb] W fun r w' => r = .returned (.tuple #[]) ∧ ∃ D' : List Nat, Ord l D D' a b ∧ RowN w' w0.heap.size A c D' ∧ Below w0.heap.size w0 w' := by
  have CM := Lib.hid cm
  have HR := Lib.hid h
  have HW := Lib.hid hw
  have HLT := Lib.hid hlt
  have H1 := Lib.hid h1
  have H2 := Lib.hid h2
  have HLI := Lib.hid hli
  have eg := cm.eg
  clear cm h hw hlt h1 h2 hli
  have e1 : (b : Int) - m = 1 := by omega
  have e3 : ¬ (m : Int) - a = 1 := by omega
  have e4 : decide ((m : Int) - a = 1) = false := decide_eq_false e3
  have e7 : ((m : Int) - a == 1) = false := by simpa using e3
  have HB1 := Lib.hid hone
  have w0' : IntKind.i64.wrap ((m : Int) - a) = (m : Int) - a := IntWalk.i64_in _ (by omega)
  have hv : ∃ v, D[m]? = some v := ⟨D[m], List.getElem?_eq_getElem (by omega)⟩
  obtain ⟨x, hv⟩ := hv
  have HV := Lib.hid hv
  clear hv hone
  go_enter Try.func24, Try.ntmps24
  go_wp2_with fail
  obtain ⟨PP, hPP⟩ : ∃ PP : Nat → Prop, PP = fun i => i = a ∨ ∃ u, D[i - 1]? = some u ∧ bef l u x = true := ⟨_, rfl⟩
  obtain ⟨QQ, hQQ⟩ : ∃ QQ : Nat → Prop, QQ = fun j => j = m ∨ ∃ u, D[j]? = some u ∧ bef l x u = true := ⟨_, rfl⟩
  obtain ⟨RR, hRR⟩ : ∃ RR : World → Prop, RR = fun wr => RowN wr w0.heap.size A c D ∧ Below w0.heap.size w0 wr := ⟨_, rfl⟩
  have EP := Lib.hid hPP
  have EQ := Lib.hid hQQ
  have ER := Lib.hid hRR
  clear hPP hQQ hRR
  go_loopw [14, 15, 16] (fun p q z wr => Rs a m PP QQ RR p q wr) (fun p q _ _ => (intOf q).toNat - (intOf p).toNat)
  case atStart => exact Rs.mk a m (by omega) (by omega) (by omega) rfl rfl (by rw [EP.out]; exact .inl rfl) (by rw [EQ.out]; exact .inl rfl) (by rw [ER.out]; exact ⟨HR.out, HW.out⟩)
  case round =>
    obtain ⟨i, j, hi, hij, hjb, rfl, rfl, hP, hQ, hR⟩ := hrel
    rw [EP.out] at hP
    rw [EQ.out] at hQ
    rw [ER.out] at hR
    have KK := Lib.hid (show (i = a ∨ ∃ u, D[i - 1]? = some u ∧ bef l u x = true) ∧ (j = m ∨ ∃ u, D[j]? = some u ∧ bef l x u = true) ∧ RowN wr w0.heap.size A c D ∧ Below w0.heap.size w0 wr from ⟨hP, hQ, hR.1, hR.2⟩)
    clear hP hQ hR
    have RW := Lib.hid KK.out.2.2.1
    have BW := Lib.hid KK.out.2.2.2
    by_cases hlt : i < j
    · have hlti : (i : Int) < j := by omega
      obtain ⟨h, hh⟩ : ∃ h : Nat, h = (i + j) / 2 := ⟨_, rfl⟩
      have hw1 : IntKind.i64.wrap ((i : Int) + j) = (i : Int) + j := IntWalk.i64_in _ (by omega)
      have hw2 : IntKind.u64.wrap ((i : Int) + j) = (i : Int) + j := IntWalk.u64_in _ (by omega)
      have hd2 : ((i : Int) + j) / 2 = (h : Int) := by omega
      have hw3 : IntKind.i64.wrap (h : Int) = (h : Int) := IntWalk.i64_in _ (by omega)
      have hw4 : IntKind.u64.wrap (h : Int) = (h : Int) := IntWalk.u64_in _ (by omega)
      have hhn : i ≤ h ∧ h < j := by omega
      have HH := Lib.hid hh
      clear hh
      obtain ⟨g, x2, eA, hgB, zg0, hx, c1', _, _⟩ := RW.out.at_ (i := m) (by omega)
      obtain ⟨g2, y, eA2, _, _, hy, c2', _, _⟩ := RW.out.at_ (i := h) (by omega)
      obtain rfl : x2 = x := by have := HV.out; rw [hx] at this; injection this
      subst eA
      injection eA2 with eA2
      injection eA2 with eA2
      subst eA2
      have x2N : x2 < N := HLT.out x2 (List.mem_of_getElem? hx)
      have yN : y < N := HLT.out y (List.mem_of_getElem? hy)
      have hyx : y < x2 := HLI.out h m y x2 (by omega) (by omega) (by omega) (by omega) hy hx
      have hcb := cmp_bef l hyx
      have HY := Lib.hid hy
      have q1 : (h : Int) < N := by omega
      have q2 : (m : Int) < N := by omega
      clear hx hy
      by_cases hbf : bef l x2 y = true
      · have hneg : cmp3 (rk l x2) (rk l y) < 0 := hcb.2 hbf
        have hnd : decide (cmp3 (rk l x2) (rk l y) < 0) = true := decide_eq_true hneg
        go_upto_region 17 with (fail)
        obtain ⟨u0, hu0⟩ : ∃ u, u = wr.drew := ⟨_, rfl⟩
        refine wp_region_held_drew (S := fun w' => Below u0.heap.size u0 w') (by kernel_rfl) (by rw [← hu0]; exact Below.refl _ _) (fun s0 => ?_)
        rw [← hu0] at s0 ⊢
        have zg : g < u0.heap.size := by rw [hu0]; exact zg0
        have c1 : u0.cell? ⟨g, m, none⟩ = some (.int .i64 (x2 : Int)) := by rw [hu0]; exact c1'
        have c2 : u0.cell? ⟨g, h, none⟩ = some (.int .i64 (y : Int)) := by rw [hu0]; exact c2'
        have BU : Below w0.heap.size w0 u0 := by rw [hu0]; exact below_dT BW.out 1
        have RU : RowN u0 w0.heap.size (some ⟨g, 0, none⟩) c D := by rw [hu0]; exact RW.out.drew 1
        clear hu0
        refine wpAnyH_take (i := 0) (oi := ⟨_, _, _, _, _, _⟩) (v := .func (.func f) #[] cb) rfl (by kernel_rfl) (by kernel_rfl) (by kernel_rfl) (fun _ _ _ h => h) (Or.inl ⟨by rfl, fun w' hS => by go_simp⟩) s0 ?_
        simp only [List.getElem_toArray, List.getElem_cons_succ, List.getElem_cons_zero, Act.put, List.setIfInBounds_toArray, List.set_cons_zero, List.set_cons_succ]
        refine wpAnyH_take (i := 1) (oi := ⟨_, _, _, _, _, _⟩) (v := .slice (some ⟨g, 0, none⟩) N c) rfl (by kernel_rfl) (by kernel_rfl) (by kernel_rfl) (fun _ _ _ h => h) (Or.inl ⟨by rfl, fun w' hS => by go_simp⟩) s0 ?_
        simp only [List.getElem_toArray, List.getElem_cons_succ, List.getElem_cons_zero, Act.put, List.setIfInBounds_toArray, List.set_cons_zero, List.set_cons_succ]
        refine wpAnyH_take (i := 2) (oi := ⟨_, _, _, _, _, _⟩) (v := .int .i64 (m : Int)) rfl (by kernel_rfl) (by kernel_rfl) (by kernel_rfl) (fun _ _ _ h => h) (Or.inl ⟨by rfl, fun w' hS => by go_simp⟩) s0 ?_
        simp only [List.getElem_toArray, List.getElem_cons_succ, List.getElem_cons_zero, Act.put, List.setIfInBounds_toArray, List.set_cons_zero, List.set_cons_succ]
        refine wpAnyH_take (i := 3) (oi := ⟨_, _, _, _, _, _⟩) (v := .pointer (some ⟨g, m, none⟩)) rfl (by kernel_rfl) (by kernel_rfl) (by kernel_rfl) (fun _ _ _ h => h) (Or.inl ⟨by rfl, fun w' hS => by go_simp⟩) s0 ?_
        simp only [List.getElem_toArray, List.getElem_cons_succ, List.getElem_cons_zero, Act.put, List.setIfInBounds_toArray, List.set_cons_zero, List.set_cons_succ]
        refine wpAnyH_take (i := 4) (oi := ⟨_, _, _, _, _, _⟩) (v := .int .i64 (x2 : Int)) rfl (by kernel_rfl) (by kernel_rfl) (by kernel_rfl) (fun _ _ _ h => h) (Or.inl ⟨by rfl, fun w' hS => by have cc := (hS.cell zg).trans c1; have zz := Nat.lt_of_lt_of_le zg hS.size; go_simp⟩) s0 ?_
        simp only [List.getElem_toArray, List.getElem_cons_succ, List.getElem_cons_zero, Act.put, List.setIfInBounds_toArray, List.set_cons_zero, List.set_cons_succ]
        refine wpAnyH_take (i := 5) (oi := ⟨_, _, _, _, _, _⟩) (v := .slice (some ⟨g, 0, none⟩) N c) rfl (by kernel_rfl) (by kernel_rfl) (by kernel_rfl) (fun _ _ _ h => h) (Or.inl ⟨by rfl, fun w' hS => by go_simp⟩) s0 ?_
        simp only [List.getElem_toArray, List.getElem_cons_succ, List.getElem_cons_zero, Act.put, List.setIfInBounds_toArray, List.set_cons_zero, List.set_cons_succ]
        refine wpAnyH_take (i := 6) (oi := ⟨_, _, _, _, _, _⟩) (v := .int .i64 (h : Int)) rfl (by kernel_rfl) (by kernel_rfl) (by kernel_rfl) (fun _ _ _ h => h) (Or.inl ⟨by rfl, fun w' hS => by go_simp⟩) s0 ?_
        simp only [List.getElem_toArray, List.getElem_cons_succ, List.getElem_cons_zero, Act.put, List.setIfInBounds_toArray, List.set_cons_zero, List.set_cons_succ]
        refine wpAnyH_take (i := 7) (oi := ⟨_, _, _, _, _, _⟩) (v := .pointer (some ⟨g, h, none⟩)) rfl (by kernel_rfl) (by kernel_rfl) (by kernel_rfl) (fun _ _ _ h => h) (Or.inl ⟨by rfl, fun w' hS => by go_simp⟩) s0 ?_
        simp only [List.getElem_toArray, List.getElem_cons_succ, List.getElem_cons_zero, Act.put, List.setIfInBounds_toArray, List.set_cons_zero, List.set_cons_succ]
        refine wpAnyH_take (i := 8) (oi := ⟨_, _, _, _, _, _⟩) (v := .int .i64 (y : Int)) rfl (by kernel_rfl) (by kernel_rfl) (by kernel_rfl) (fun _ _ _ h => h) (Or.inl ⟨by rfl, fun w' hS => by have cc := (hS.cell zg).trans c2; have zz := Nat.lt_of_lt_of_le zg hS.size; go_simp⟩) s0 ?_
        simp only [List.getElem_toArray, List.getElem_cons_succ, List.getElem_cons_zero, Act.put, List.setIfInBounds_toArray, List.set_cons_zero, List.set_cons_succ]
        refine wpAnyH_ready (rs := [9]) (by kernel_rfl) (by simp) ?_
        refine AllReadyH.cons rfl (fun K hK => ?_) AllReadyH.nil
        go_simp
        refine (CM.out.run u0 x2 y BU x2N yN).mono ?_
        rintro e v1 ⟨rfl, q1⟩
        have p1 := s0.trans (q1.mono s0.size)
        refine hK.out _ _ p1 (fun _ => ?_)
        clear hK K s0 q1
        have RV := Lib.hid (RU.below p1)
        have BV := Lib.hid (BU.trans (p1.mono BU.size))
        refine wpAnyH_take (i := 10) (oi := ⟨_, _, _, _, _, _⟩) (v := .bool true) rfl (by kernel_rfl) (by kernel_rfl) (by kernel_rfl) (fun _ _ _ h => h) (Or.inl ⟨by rfl, fun w' hS => by go_simp⟩) p1 ?_
        simp only [List.getElem_toArray, List.getElem_cons_succ, List.getElem_cons_zero, Act.put, List.setIfInBounds_toArray, List.set_cons_zero, List.set_cons_succ]
        refine wpAnyH_take (i := 11) (oi := ⟨_, _, _, _, _, _⟩) (v := .bool false) rfl (by kernel_rfl) (by kernel_rfl) (by kernel_rfl) (fun _ _ _ h => h) (Or.inl ⟨by rfl, fun w' hS => by go_simp⟩) p1 ?_
        simp only [List.getElem_toArray, List.getElem_cons_succ, List.getElem_cons_zero, Act.put, List.setIfInBounds_toArray, List.set_cons_zero, List.set_cons_succ]
        refine wpAnyH_done (by kernel_rfl) ?_ _
        clear zg c1 c2 BU RU c1' c2' zg0
        go_wp2_with fail
        go_roundw
        case rel => exact Rs.mk i h hi (by omega) (by omega) rfl rfl (by rw [EP.out]; exact KK.out.1) (by rw [EQ.out]; exact .inr ⟨y, HY.out, hbf⟩) (by rw [ER.out]; exact ⟨RV.out, BV.out⟩)
        case measure => simp [intOf]; omega
      · have hneg : ¬ cmp3 (rk l x2) (rk l y) < 0 := fun e => hbf (hcb.1 e)
        have hnd : decide (cmp3 (rk l x2) (rk l y) < 0) = false := decide_eq_false hneg
        go_upto_region 17 with (fail)
        obtain ⟨u0, hu0⟩ : ∃ u, u = wr.drew := ⟨_, rfl⟩
        refine wp_region_held_drew (S := fun w' => Below u0.heap.size u0 w') (by kernel_rfl) (by rw [← hu0]; exact Below.refl _ _) (fun s0 => ?_)
        rw [← hu0] at s0 ⊢
        have zg : g < u0.heap.size := by rw [hu0]; exact zg0
        have c1 : u0.cell? ⟨g, m, none⟩ = some (.int .i64 (x2 : Int)) := by rw [hu0]; exact c1'
        have c2 : u0.cell? ⟨g, h, none⟩ = some (.int .i64 (y : Int)) := by rw [hu0]; exact c2'
        have BU : Below w0.heap.size w0 u0 := by rw [hu0]; exact below_dT BW.out 1
        have RU : RowN u0 w0.heap.size (some ⟨g, 0, none⟩) c D := by rw [hu0]; exact RW.out.drew 1
        clear hu0
        refine wpAnyH_take (i := 0) (oi := ⟨_, _, _, _, _, _⟩) (v := .func (.func f) #[] cb) rfl (by kernel_rfl) (by kernel_rfl) (by kernel_rfl) (fun _ _ _ h => h) (Or.inl ⟨by rfl, fun w' hS => by go_simp⟩) s0 ?_
        simp only [List.getElem_toArray, List.getElem_cons_succ, List.getElem_cons_zero, Act.put, List.setIfInBounds_toArray, List.set_cons_zero, List.set_cons_succ]
        refine wpAnyH_take (i := 1) (oi := ⟨_, _, _, _, _, _⟩) (v := .slice (some ⟨g, 0, none⟩) N c) rfl (by kernel_rfl) (by kernel_rfl) (by kernel_rfl) (fun _ _ _ h => h) (Or.inl ⟨by rfl, fun w' hS => by go_simp⟩) s0 ?_
        simp only [List.getElem_toArray, List.getElem_cons_succ, List.getElem_cons_zero, Act.put, List.setIfInBounds_toArray, List.set_cons_zero, List.set_cons_succ]
        refine wpAnyH_take (i := 2) (oi := ⟨_, _, _, _, _, _⟩) (v := .int .i64 (m : Int)) rfl (by kernel_rfl) (by kernel_rfl) (by kernel_rfl) (fun _ _ _ h => h) (Or.inl ⟨by rfl, fun w' hS => by go_simp⟩) s0 ?_
        simp only [List.getElem_toArray, List.getElem_cons_succ, List.getElem_cons_zero, Act.put, List.setIfInBounds_toArray, List.set_cons_zero, List.set_cons_succ]
        refine wpAnyH_take (i := 3) (oi := ⟨_, _, _, _, _, _⟩) (v := .pointer (some ⟨g, m, none⟩)) rfl (by kernel_rfl) (by kernel_rfl) (by kernel_rfl) (fun _ _ _ h => h) (Or.inl ⟨by rfl, fun w' hS => by go_simp⟩) s0 ?_
        simp only [List.getElem_toArray, List.getElem_cons_succ, List.getElem_cons_zero, Act.put, List.setIfInBounds_toArray, List.set_cons_zero, List.set_cons_succ]
        refine wpAnyH_take (i := 4) (oi := ⟨_, _, _, _, _, _⟩) (v := .int .i64 (x2 : Int)) rfl (by kernel_rfl) (by kernel_rfl) (by kernel_rfl) (fun _ _ _ h => h) (Or.inl ⟨by rfl, fun w' hS => by have cc := (hS.cell zg).trans c1; have zz := Nat.lt_of_lt_of_le zg hS.size; go_simp⟩) s0 ?_
        simp only [List.getElem_toArray, List.getElem_cons_succ, List.getElem_cons_zero, Act.put, List.setIfInBounds_toArray, List.set_cons_zero, List.set_cons_succ]
        refine wpAnyH_take (i := 5) (oi := ⟨_, _, _, _, _, _⟩) (v := .slice (some ⟨g, 0, none⟩) N c) rfl (by kernel_rfl) (by kernel_rfl) (by kernel_rfl) (fun _ _ _ h => h) (Or.inl ⟨by rfl, fun w' hS => by go_simp⟩) s0 ?_
        simp only [List.getElem_toArray, List.getElem_cons_succ, List.getElem_cons_zero, Act.put, List.setIfInBounds_toArray, List.set_cons_zero, List.set_cons_succ]
        refine wpAnyH_take (i := 6) (oi := ⟨_, _, _, _, _, _⟩) (v := .int .i64 (h : Int)) rfl (by kernel_rfl) (by kernel_rfl) (by kernel_rfl) (fun _ _ _ h => h) (Or.inl ⟨by rfl, fun w' hS => by go_simp⟩) s0 ?_
        simp only [List.getElem_toArray, List.getElem_cons_succ, List.getElem_cons_zero, Act.put, List.setIfInBounds_toArray, List.set_cons_zero, List.set_cons_succ]
        refine wpAnyH_take (i := 7) (oi := ⟨_, _, _, _, _, _⟩) (v := .pointer (some ⟨g, h, none⟩)) rfl (by kernel_rfl) (by kernel_rfl) (by kernel_rfl) (fun _ _ _ h => h) (Or.inl ⟨by rfl, fun w' hS => by go_simp⟩) s0 ?_
        simp only [List.getElem_toArray, List.getElem_cons_succ, List.getElem_cons_zero, Act.put, List.setIfInBounds_toArray, List.set_cons_zero, List.set_cons_succ]
        refine wpAnyH_take (i := 8) (oi := ⟨_, _, _, _, _, _⟩) (v := .int .i64 (y : Int)) rfl (by kernel_rfl) (by kernel_rfl) (by kernel_rfl) (fun _ _ _ h => h) (Or.inl ⟨by rfl, fun w' hS => by have cc := (hS.cell zg).trans c2; have zz := Nat.lt_of_lt_of_le zg hS.size; go_simp⟩) s0 ?_
        simp only [List.getElem_toArray, List.getElem_cons_succ, List.getElem_cons_zero, Act.put, List.setIfInBounds_toArray, List.set_cons_zero, List.set_cons_succ]
        refine wpAnyH_ready (rs := [9]) (by kernel_rfl) (by simp) ?_
        refine AllReadyH.cons rfl (fun K hK => ?_) AllReadyH.nil
        go_simp
        refine (CM.out.run u0 x2 y BU x2N yN).mono ?_
        rintro e v1 ⟨rfl, q1⟩
        have p1 := s0.trans (q1.mono s0.size)
        refine hK.out _ _ p1 (fun _ => ?_)
        clear hK K s0 q1
        have RV := Lib.hid (RU.below p1)
        have BV := Lib.hid (BU.trans (p1.mono BU.size))
        refine wpAnyH_take (i := 10) (oi := ⟨_, _, _, _, _, _⟩) (v := .bool false) rfl (by kernel_rfl) (by kernel_rfl) (by kernel_rfl) (fun _ _ _ h => h) (Or.inl ⟨by rfl, fun w' hS => by go_simp⟩) p1 ?_
        simp only [List.getElem_toArray, List.getElem_cons_succ, List.getElem_cons_zero, Act.put, List.setIfInBounds_toArray, List.set_cons_zero, List.set_cons_succ]
        refine wpAnyH_take (i := 11) (oi := ⟨_, _, _, _, _, _⟩) (v := .bool true) rfl (by kernel_rfl) (by kernel_rfl) (by kernel_rfl) (fun _ _ _ h => h) (Or.inl ⟨by rfl, fun w' hS => by go_simp⟩) p1 ?_
        simp only [List.getElem_toArray, List.getElem_cons_succ, List.getElem_cons_zero, Act.put, List.setIfInBounds_toArray, List.set_cons_zero, List.set_cons_succ]
        refine wpAnyH_done (by kernel_rfl) ?_ _
        clear zg c1 c2 BU RU c1' c2' zg0
        go_wp2_with fail
        go_roundw
        case rel => exact Rs.mk (h + 1) j (by omega) (by omega) hjb (by go_num) rfl (by rw [EP.out]; exact .inr ⟨y, by simpa using HY.out, bef_total (by omega) hbf⟩) (by rw [EQ.out]; exact KK.out.2.1) (by rw [ER.out]; exact ⟨RV.out, BV.out⟩)
        case measure => simp [intOf]; omega
    · have hd : decide ((i : Int) < j) = false := decide_eq_false (by omega)
      obtain rfl : i = j := by omega
      go_wp2_with fail
      obtain ⟨P2, hP2⟩ : ∃ P2 : Nat → World → Prop, P2 = fun k wr => ∃ C : List Nat, i ≤ k ∧ k ≤ m ∧ Ins D C m k ∧ RowN wr w0.heap.size A c C ∧ Below w0.heap.size w0 wr := ⟨_, rfl⟩
      have E2 := Lib.hid hP2
      clear hP2
      go_loopw [17] (fun p wr => Rk P2 p wr) (fun p _ => (intOf p).toNat)
      case atStart => exact Rk.mk m rfl (by rw [E2.out]; exact ⟨D, hjb, Nat.le_refl _, Ins.zero D m, RW.out, BW.out⟩)
      case round =>
        obtain ⟨k, rfl, hq⟩ := hrel
        rw [E2.out] at hq
        obtain ⟨C, hk1, hk2, q1, q2, q3⟩ := hq
        have QQ2 := Lib.hid (show Ins D C m k ∧ RowN wr w0.heap.size A c C ∧ Below w0.heap.size w0 wr from ⟨q1, q2, q3⟩)
        clear q1 q2 q3
        by_cases hlk : i < k
        · have hlki : (i : Int) < (k : Int) := by omega
          have hcl : C.length = N := QQ2.out.1.1.trans hN
          obtain ⟨g, x3, z, eA, hg, z5, hx, hz, d1, d2, d3, d4, hr3, hb3⟩ := QQ2.out.2.1.swap (i := k) (j := k - 1) (by omega) (by omega)
          subst eA
          have R3 := Lib.hid (hr3.drew 1)
          have B3 := Lib.hid (below_dT (QQ2.out.2.2.trans hb3) 1)
          have hne : k ≠ k - 1 := by omega
          have w2 : IntKind.i64.wrap ((k : Int) - 1) = (k : Int) - 1 := IntWalk.i64_in _ (by omega)
          have t2 : ((k : Int) - 1).toNat = k - 1 := by omega
          have q1 : (k : Int) < N := by omega
          have q2 : (k : Int) - 1 < N := by omega
          have q3 : (0 : Int) ≤ (k : Int) - 1 := by omega
          have q4 : ¬ (k : Int) < 1 := by omega
          have q5 : (1 : Int) ≤ k := by omega
          clear hx hz hr3 hb3
          go_wp2_with fail
          go_region
          go_wp2_with fail
          go_roundw
          case rel => exact Rk.mk (P := P2) (k - 1) (congrArg (Value.int .i64) (show (k : Int) - 1 = ((k - 1 : Nat) : Int) by omega)) (by rw [E2.out]; exact ⟨swp C k (k - 1), by omega, by omega, QQ2.out.1.step (by omega) hk2 (by omega), R3.out, B3.out⟩)
          case measure => simp [intOf]; omega
        · have hd2 : decide ((i : Int) < (k : Int)) = false := decide_eq_false (by omega)
          obtain rfl : k = i := by omega
          go_wp2_with fail
          refine bodyPost_ret (results_none rfl _ _ _) rfl ?_
          rw [HB1.out]
          refine ⟨rfl, C, (Ord.refl H1.out).ins QQ2.out.1 hi hjb (by omega) HV.out (fun hak => ?_) (fun p u hp1 hp2 e => ?_), QQ2.out.2.1, QQ2.out.2.2⟩
          · rcases KK.out.1 with hq | h
            · omega
            · exact h
          · rcases KK.out.2.1 with hq | ⟨v, ev, hb⟩
            · omega
            · rcases H1.out.le hi hp1 hp2 ev e with rfl | h
              · exact hb
              · exact bef_trans hb h
end Go.Proofs.Ytchohcfcnghmlaa
