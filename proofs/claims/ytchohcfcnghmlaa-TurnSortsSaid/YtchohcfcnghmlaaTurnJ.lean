/-
  turn: slices.insertionSortCmpFunc at places (made by mkTurnJ.py).
-/
import Derived.Test.YtchohcfcnghmlaaTurnI
import Derived.Deep.MidRow
import Derived.Deep.CutBlock
namespace Go.Proofs.Ytchohcfcnghmlaa
open Go.RowKit
set_option linter.unusedVariables false
set_option linter.unusedSimpArgs false
set_option maxRecDepth 20000 in
set_option maxHeartbeats 6400000 in
theorem insertion_any (l : List R3) (f : Nat) (cb : Array Value) (w0 : World) (A : Option Addr) (c a b N : Nat) (D : List Nat) (W : World) (cm : Cmp l N w0 f cb) (h : RowN W w0.heap.size A c D) (hw : Below w0.heap.size w0 W) (hN : D.length = N) (hN2 : N ≤ 1000) (hab : a ≤ b) (hb : b ≤ N)
    (hlt : ∀ v ∈ D, v < N) (hup : ∀ x y u v, a ≤ x → x < y → y < b → D[x]? = some u → D[y]? = some v → u < v) :
    Calls Try.prog 23 #[.slice A N c, .int .i64 (a : Int), .int .i64 (b : Int), .func (.func f) #[] cb] W fun r w' => r = .returned (.tuple #[]) ∧ ∃ D' : List Nat, Ord l D D' a b ∧ RowN w' w0.heap.size A c D' ∧ Below w0.heap.size w0 w' := by
  have CM := Lib.hid cm
  have HR := Lib.hid h
  have HW := Lib.hid hw
  have HLT := Lib.hid hlt
  have HUP := Lib.hid hup
  have HN := Lib.hid hN
  have eg := cm.eg
  clear cm h hw hlt hup
  go_enter Try.func23, Try.ntmps23
  go_wp2_with fail
  go_loopw [8, 9] (fun p q wr => ∃ (i : Nat) (z : Value) (D' : List Nat), a + 1 ≤ i ∧ (i ≤ b ∨ i = a + 1) ∧ p = .int .i64 (i : Int) ∧ q = z ∧ Hid (Ord l D D' a (min i b) ∧ RowN wr w0.heap.size A c D' ∧ Below w0.heap.size w0 wr)) (fun p _ _ => b + 1 - (intOf p).toNat)
  case atStart =>
    refine ⟨a + 1, D.getD 0 0 |> fun _ => _, D, by omega, .inr rfl, by go_num, rfl, Lib.hid ⟨⟨rfl, List.Perm.refl _, fun _ _ => rfl, ?_, fun _ => Iff.rfl⟩, HR.out, HW.out⟩⟩
    intro x y u v hx hxy hy
    omega
  case round =>
    obtain ⟨i, z, D', hi1, hi2, rfl, rfl, HH⟩ := hrel
    by_cases hib : i < b
    · have hmin : min i b = i := by omega
      rw [hmin] at HH
      have hl : D'.length = N := HH.out.1.len.trans HN.out
      obtain ⟨v, hv⟩ : ∃ v, D'[i]? = some v := ⟨D'[i], List.getElem?_eq_getElem (by omega)⟩
      have HL := Lib.hid hl
      have HV := Lib.hid hv
      have hvD : D[i]? = some v := by rw [← HH.out.1.out i (by omega)]; exact hv
      have HVD := Lib.hid hvD
      clear hl hv hvD
      go_wp2_with fail
      go_loopw [9] (fun q wr2 => ∃ (j : Nat) (C : List Nat), a ≤ j ∧ j ≤ i ∧ q = .int .i64 (j : Int) ∧ Hid (Ins D' C i j ∧ (∀ x u, j ≤ x → x < i → D'[x]? = some u → bef l v u = true) ∧ RowN wr2 w0.heap.size A c C ∧ Below w0.heap.size w0 wr2)) (fun q _ => (intOf q).toNat)
      case atStart => exact ⟨i, D', by omega, Nat.le_refl _, rfl, Lib.hid ⟨Ins.zero D' i, fun x u h1 h2 => by omega, HH.out.2.1, HH.out.2.2⟩⟩
      case round =>
        obtain ⟨j, C, hja, hji, rfl, KK⟩ := hrel
        have RW := Lib.hid KK.out.2.2.1
        have BW := Lib.hid KK.out.2.2.2
        by_cases hgt : a < j
        · have hgi : (a : Int) < j := by omega
          have hgd : decide ((a : Int) < j) = true := decide_eq_true hgi
          have hCl : C.length = N := KK.out.1.1.trans HL.out
          have hjv : C[j]? = some v := by rw [KK.out.1.2.2 j, if_pos rfl]; exact HV.out
          obtain ⟨g, x, y, eA, hg, zg0, hx, hy, c1', c2', f1, f2, hr2, hb2⟩ := RW.out.swap (i := j) (j := j - 1) (by omega) (by omega)
          obtain rfl : x = v := by rw [hx] at hjv; injection hjv
          have hyD : D'[j - 1]? = some y := by rw [← hy, KK.out.1.2.2 (j - 1), if_neg (by omega), if_neg (by omega)]
          have memN : ∀ {k u : Nat}, D'[k]? = some u → u < N := fun e => HLT.out _ (HH.out.1.perm.mem_iff.1 (List.mem_of_getElem? e))
          have hxN := memN HV.out
          have hyN := memN hyD
          have hyx : y < x := by
            obtain ⟨p, hp1, hp2, hp3⟩ := (HH.out.1.mem y).1 ⟨j - 1, by omega, by omega, hyD⟩
            exact HUP.out p i y x hp1 hp2 hib hp3 HVD.out
          have hcb := cmp_bef l hyx
          have HYD := Lib.hid hyD
          have R2 := Lib.hid hr2
          have j1 : (j : Int) < N := by omega
          have j0 : (0 : Int) ≤ (j : Int) - 1 := by omega
          have j2 : (j : Int) - 1 < N := by omega
          have w1 : IntKind.i64.wrap ((j : Int) - 1) = (j : Int) - 1 := IntWalk.i64_in _ (by omega)
          have t2 : ((j : Int) - 1).toNat = j - 1 := by omega
          have j3 : ¬ (j : Int) < 1 := by omega
          have j4 : (1 : Int) ≤ j := by omega
          clear hr2 hb2 hx hy hjv hyD f1 f2
          subst eA
          by_cases hbf : bef l x y = true
          · have hneg : cmp3 (rk l x) (rk l y) < 0 := hcb.2 hbf
            have hnd : decide (cmp3 (rk l x) (rk l y) < 0) = true := decide_eq_true hneg
            clear hcb
            go_upto_region 4 with (fail)
            obtain ⟨u0, hu0⟩ : ∃ u, u = wr.drew := ⟨_, rfl⟩
            refine wp_region_held_drew (S := fun w' => Below u0.heap.size u0 w') (by kernel_rfl) (by rw [← hu0]; exact Below.refl _ _) (fun s0 => ?_)
            rw [← hu0] at s0 ⊢
            refine wpAnyH_take (i := 0) (oi := ⟨_, _, _, _, _, _⟩) (v := .int .i64 (j : Int)) rfl (by kernel_rfl) (by kernel_rfl) (by kernel_rfl) (fun _ _ _ h => h) (Or.inl ⟨by rfl, fun w' hS => by go_simp⟩) s0 ?_
            simp only [List.getElem_toArray, List.getElem_cons_succ, List.getElem_cons_zero, Act.put, List.setIfInBounds_toArray, List.set_cons_zero, List.set_cons_succ]
            refine wpAnyH_take (i := 1) (oi := ⟨_, _, _, _, _, _⟩) (v := .int .i64 (a : Int)) rfl (by kernel_rfl) (by kernel_rfl) (by kernel_rfl) (fun _ _ _ h => h) (Or.inl ⟨by rfl, fun w' hS => by go_simp⟩) s0 ?_
            simp only [List.getElem_toArray, List.getElem_cons_succ, List.getElem_cons_zero, Act.put, List.setIfInBounds_toArray, List.set_cons_zero, List.set_cons_succ]
            refine wpAnyH_take (i := 2) (oi := ⟨_, _, _, _, _, _⟩) (v := .bool true) rfl (by kernel_rfl) (by kernel_rfl) (by kernel_rfl) (fun _ _ _ h => h) (Or.inl ⟨by rfl, fun w' hS => by go_simp⟩) s0 ?_
            simp only [List.getElem_toArray, List.getElem_cons_succ, List.getElem_cons_zero, Act.put, List.setIfInBounds_toArray, List.set_cons_zero, List.set_cons_succ]
            refine wpAnyH_take (i := 3) (oi := ⟨_, _, _, _, _, _⟩) (v := .bool true) rfl (by kernel_rfl) (by kernel_rfl) (by kernel_rfl) (fun _ _ _ h => h) (Or.inl ⟨by rfl, fun w' hS => by go_simp⟩) s0 ?_
            simp only [List.getElem_toArray, List.getElem_cons_succ, List.getElem_cons_zero, Act.put, List.setIfInBounds_toArray, List.set_cons_zero, List.set_cons_succ]
            have zg : g < u0.heap.size := by rw [hu0]; exact zg0
            have c1 : u0.cell? ⟨g, j, none⟩ = some (.int .i64 (x : Int)) := by rw [hu0]; exact c1'
            have c2 : u0.cell? ⟨g, j - 1, none⟩ = some (.int .i64 (y : Int)) := by rw [hu0]; exact c2'
            have BU : Below w0.heap.size w0 u0 := by rw [hu0]; exact below_dT BW.out 1
            have RU : RowN u0 w0.heap.size (some ⟨g, 0, none⟩) c C := by rw [hu0]; exact RW.out.drew 1
            clear hu0
            refine wpAnyH_take (i := 4) (oi := ⟨_, _, _, _, _, _⟩) (v := .func (.func f) #[] cb) rfl (by kernel_rfl) (by kernel_rfl) (by kernel_rfl) (fun _ _ _ h => h) (Or.inl ⟨by rfl, fun w' hS => by go_simp⟩) s0 ?_
            simp only [List.getElem_toArray, List.getElem_cons_succ, List.getElem_cons_zero, Act.put, List.setIfInBounds_toArray, List.set_cons_zero, List.set_cons_succ]
            refine wpAnyH_take (i := 5) (oi := ⟨_, _, _, _, _, _⟩) (v := .slice (some ⟨g, 0, none⟩) N c) rfl (by kernel_rfl) (by kernel_rfl) (by kernel_rfl) (fun _ _ _ h => h) (Or.inl ⟨by rfl, fun w' hS => by go_simp⟩) s0 ?_
            simp only [List.getElem_toArray, List.getElem_cons_succ, List.getElem_cons_zero, Act.put, List.setIfInBounds_toArray, List.set_cons_zero, List.set_cons_succ]
            refine wpAnyH_take (i := 6) (oi := ⟨_, _, _, _, _, _⟩) (v := .int .i64 (j : Int)) rfl (by kernel_rfl) (by kernel_rfl) (by kernel_rfl) (fun _ _ _ h => h) (Or.inl ⟨by rfl, fun w' hS => by go_simp⟩) s0 ?_
            simp only [List.getElem_toArray, List.getElem_cons_succ, List.getElem_cons_zero, Act.put, List.setIfInBounds_toArray, List.set_cons_zero, List.set_cons_succ]
            refine wpAnyH_take (i := 7) (oi := ⟨_, _, _, _, _, _⟩) (v := .pointer (some ⟨g, j, none⟩)) rfl (by kernel_rfl) (by kernel_rfl) (by kernel_rfl) (fun _ _ _ h => h) (Or.inl ⟨by rfl, fun w' hS => by go_simp⟩) s0 ?_
            simp only [List.getElem_toArray, List.getElem_cons_succ, List.getElem_cons_zero, Act.put, List.setIfInBounds_toArray, List.set_cons_zero, List.set_cons_succ]
            refine wpAnyH_take (i := 8) (oi := ⟨_, _, _, _, _, _⟩) (v := .int .i64 (x : Int)) rfl (by kernel_rfl) (by kernel_rfl) (by kernel_rfl) (fun _ _ _ h => h) (Or.inl ⟨by rfl, fun w' hS => by have cc := (hS.cell zg).trans c1; have zz := Nat.lt_of_lt_of_le zg hS.size; go_simp⟩) s0 ?_
            simp only [List.getElem_toArray, List.getElem_cons_succ, List.getElem_cons_zero, Act.put, List.setIfInBounds_toArray, List.set_cons_zero, List.set_cons_succ]
            refine wpAnyH_take (i := 9) (oi := ⟨_, _, _, _, _, _⟩) (v := .slice (some ⟨g, 0, none⟩) N c) rfl (by kernel_rfl) (by kernel_rfl) (by kernel_rfl) (fun _ _ _ h => h) (Or.inl ⟨by rfl, fun w' hS => by go_simp⟩) s0 ?_
            simp only [List.getElem_toArray, List.getElem_cons_succ, List.getElem_cons_zero, Act.put, List.setIfInBounds_toArray, List.set_cons_zero, List.set_cons_succ]
            refine wpAnyH_take (i := 10) (oi := ⟨_, _, _, _, _, _⟩) (v := .int .i64 (j : Int)) rfl (by kernel_rfl) (by kernel_rfl) (by kernel_rfl) (fun _ _ _ h => h) (Or.inl ⟨by rfl, fun w' hS => by go_simp⟩) s0 ?_
            simp only [List.getElem_toArray, List.getElem_cons_succ, List.getElem_cons_zero, Act.put, List.setIfInBounds_toArray, List.set_cons_zero, List.set_cons_succ]
            refine wpAnyH_take (i := 11) (oi := ⟨_, _, _, _, _, _⟩) (v := .int .i64 ((j : Int) - 1)) rfl (by kernel_rfl) (by kernel_rfl) (by kernel_rfl) (fun _ _ _ h => h) (Or.inl ⟨by rfl, fun w' hS => by go_simp⟩) s0 ?_
            simp only [List.getElem_toArray, List.getElem_cons_succ, List.getElem_cons_zero, Act.put, List.setIfInBounds_toArray, List.set_cons_zero, List.set_cons_succ]
            refine wpAnyH_take (i := 12) (oi := ⟨_, _, _, _, _, _⟩) (v := .pointer (some ⟨g, j - 1, none⟩)) rfl (by kernel_rfl) (by kernel_rfl) (by kernel_rfl) (fun _ _ _ h => h) (Or.inl ⟨by rfl, fun w' hS => by go_simp⟩) s0 ?_
            simp only [List.getElem_toArray, List.getElem_cons_succ, List.getElem_cons_zero, Act.put, List.setIfInBounds_toArray, List.set_cons_zero, List.set_cons_succ]
            refine wpAnyH_take (i := 13) (oi := ⟨_, _, _, _, _, _⟩) (v := .int .i64 (y : Int)) rfl (by kernel_rfl) (by kernel_rfl) (by kernel_rfl) (fun _ _ _ h => h) (Or.inl ⟨by rfl, fun w' hS => by have cc := (hS.cell zg).trans c2; have zz := Nat.lt_of_lt_of_le zg hS.size; go_simp⟩) s0 ?_
            simp only [List.getElem_toArray, List.getElem_cons_succ, List.getElem_cons_zero, Act.put, List.setIfInBounds_toArray, List.set_cons_zero, List.set_cons_succ]
            refine wpAnyH_ready (rs := [14]) (by kernel_rfl) (by simp) ?_
            refine AllReadyH.cons rfl (fun K hK => ?_) AllReadyH.nil
            go_simp
            refine (CM.out.run u0 x y (BU) hxN hyN).mono ?_
            rintro e v1 ⟨rfl, q1⟩
            have p1 := s0.trans (q1.mono s0.size)
            refine hK.out _ _ p1 (fun _ => ?_)
            clear hK K s0 q1
            have RV := Lib.hid (RU.below p1)
            have BV := Lib.hid (BU.trans (p1.mono BU.size))
            refine wpAnyH_take (i := 15) (oi := ⟨_, _, _, _, _, _⟩) (v := .bool true) rfl (by kernel_rfl) (by kernel_rfl) (by kernel_rfl) (fun _ _ _ h => h) (Or.inl ⟨by rfl, fun w' hS => by go_simp⟩) p1 ?_
            simp only [List.getElem_toArray, List.getElem_cons_succ, List.getElem_cons_zero, Act.put, List.setIfInBounds_toArray, List.set_cons_zero, List.set_cons_succ]
            refine wpAnyH_take (i := 16) (oi := ⟨_, _, _, _, _, _⟩) (v := .bool true) rfl (by kernel_rfl) (by kernel_rfl) (by kernel_rfl) (fun _ _ _ h => h) (Or.inl ⟨by rfl, fun w' hS => by go_simp⟩) p1 ?_
            simp only [List.getElem_toArray, List.getElem_cons_succ, List.getElem_cons_zero, Act.put, List.setIfInBounds_toArray, List.set_cons_zero, List.set_cons_succ]
            refine wpAnyH_done (by kernel_rfl) ?_ _
            have HCJ := Lib.hid (show C[j]? = some x by rw [KK.out.1.2.2 j, if_pos rfl]; exact HV.out)
            obtain ⟨g', x', y', e', hg', z', hx', hy', d1, d2, d3, d4, hr3, hb3⟩ := RV.out.swap (i := j) (j := j - 1) (by omega) (by omega)
            injection e' with e'
            injection e' with e'
            subst e'
            obtain rfl : x' = x := by have := HCJ.out; rw [hx'] at this; injection this
            have R3 := Lib.hid (hr3.drew 1)
            have B3 := Lib.hid (below_dT (BV.out.trans hb3) 1)
            have hne : j ≠ j - 1 := by omega
            clear hx' hy' hr3 hb3 zg c1 c2 BU RU c1' c2' zg0
            go_wp2_with fail
            go_region
            go_wp2_with fail
            go_roundw
            case rel =>
              refine ⟨j - 1, swp C j (j - 1), by omega, by omega, by congr 1; omega, Lib.hid ⟨KK.out.1.step (by omega) hji (by rw [HL.out]; omega), fun p u h1 h2 h3 => ?_, R3.out, B3.out⟩⟩
              by_cases hp : p = j - 1
              · rw [hp, HYD.out] at h3
                injection h3 with h3
                rw [← h3]
                exact hbf
              · exact KK.out.2.1 p u (by omega) h2 h3
            case measure => simp [intOf]; omega
          · have hneg : ¬ cmp3 (rk l x) (rk l y) < 0 := fun e => hbf (hcb.1 e)
            have hnd : decide (cmp3 (rk l x) (rk l y) < 0) = false := decide_eq_false hneg
            clear hcb
            go_upto_region 4 with (fail)
            obtain ⟨u0, hu0⟩ : ∃ u, u = wr.drew := ⟨_, rfl⟩
            refine wp_region_held_drew (S := fun w' => Below u0.heap.size u0 w') (by kernel_rfl) (by rw [← hu0]; exact Below.refl _ _) (fun s0 => ?_)
            rw [← hu0] at s0 ⊢
            refine wpAnyH_take (i := 0) (oi := ⟨_, _, _, _, _, _⟩) (v := .int .i64 (j : Int)) rfl (by kernel_rfl) (by kernel_rfl) (by kernel_rfl) (fun _ _ _ h => h) (Or.inl ⟨by rfl, fun w' hS => by go_simp⟩) s0 ?_
            simp only [List.getElem_toArray, List.getElem_cons_succ, List.getElem_cons_zero, Act.put, List.setIfInBounds_toArray, List.set_cons_zero, List.set_cons_succ]
            refine wpAnyH_take (i := 1) (oi := ⟨_, _, _, _, _, _⟩) (v := .int .i64 (a : Int)) rfl (by kernel_rfl) (by kernel_rfl) (by kernel_rfl) (fun _ _ _ h => h) (Or.inl ⟨by rfl, fun w' hS => by go_simp⟩) s0 ?_
            simp only [List.getElem_toArray, List.getElem_cons_succ, List.getElem_cons_zero, Act.put, List.setIfInBounds_toArray, List.set_cons_zero, List.set_cons_succ]
            refine wpAnyH_take (i := 2) (oi := ⟨_, _, _, _, _, _⟩) (v := .bool true) rfl (by kernel_rfl) (by kernel_rfl) (by kernel_rfl) (fun _ _ _ h => h) (Or.inl ⟨by rfl, fun w' hS => by go_simp⟩) s0 ?_
            simp only [List.getElem_toArray, List.getElem_cons_succ, List.getElem_cons_zero, Act.put, List.setIfInBounds_toArray, List.set_cons_zero, List.set_cons_succ]
            refine wpAnyH_take (i := 3) (oi := ⟨_, _, _, _, _, _⟩) (v := .bool true) rfl (by kernel_rfl) (by kernel_rfl) (by kernel_rfl) (fun _ _ _ h => h) (Or.inl ⟨by rfl, fun w' hS => by go_simp⟩) s0 ?_
            simp only [List.getElem_toArray, List.getElem_cons_succ, List.getElem_cons_zero, Act.put, List.setIfInBounds_toArray, List.set_cons_zero, List.set_cons_succ]
            have zg : g < u0.heap.size := by rw [hu0]; exact zg0
            have c1 : u0.cell? ⟨g, j, none⟩ = some (.int .i64 (x : Int)) := by rw [hu0]; exact c1'
            have c2 : u0.cell? ⟨g, j - 1, none⟩ = some (.int .i64 (y : Int)) := by rw [hu0]; exact c2'
            have BU : Below w0.heap.size w0 u0 := by rw [hu0]; exact below_dT BW.out 1
            have RU : RowN u0 w0.heap.size (some ⟨g, 0, none⟩) c C := by rw [hu0]; exact RW.out.drew 1
            clear hu0
            refine wpAnyH_take (i := 4) (oi := ⟨_, _, _, _, _, _⟩) (v := .func (.func f) #[] cb) rfl (by kernel_rfl) (by kernel_rfl) (by kernel_rfl) (fun _ _ _ h => h) (Or.inl ⟨by rfl, fun w' hS => by go_simp⟩) s0 ?_
            simp only [List.getElem_toArray, List.getElem_cons_succ, List.getElem_cons_zero, Act.put, List.setIfInBounds_toArray, List.set_cons_zero, List.set_cons_succ]
            refine wpAnyH_take (i := 5) (oi := ⟨_, _, _, _, _, _⟩) (v := .slice (some ⟨g, 0, none⟩) N c) rfl (by kernel_rfl) (by kernel_rfl) (by kernel_rfl) (fun _ _ _ h => h) (Or.inl ⟨by rfl, fun w' hS => by go_simp⟩) s0 ?_
            simp only [List.getElem_toArray, List.getElem_cons_succ, List.getElem_cons_zero, Act.put, List.setIfInBounds_toArray, List.set_cons_zero, List.set_cons_succ]
            refine wpAnyH_take (i := 6) (oi := ⟨_, _, _, _, _, _⟩) (v := .int .i64 (j : Int)) rfl (by kernel_rfl) (by kernel_rfl) (by kernel_rfl) (fun _ _ _ h => h) (Or.inl ⟨by rfl, fun w' hS => by go_simp⟩) s0 ?_
            simp only [List.getElem_toArray, List.getElem_cons_succ, List.getElem_cons_zero, Act.put, List.setIfInBounds_toArray, List.set_cons_zero, List.set_cons_succ]
            refine wpAnyH_take (i := 7) (oi := ⟨_, _, _, _, _, _⟩) (v := .pointer (some ⟨g, j, none⟩)) rfl (by kernel_rfl) (by kernel_rfl) (by kernel_rfl) (fun _ _ _ h => h) (Or.inl ⟨by rfl, fun w' hS => by go_simp⟩) s0 ?_
            simp only [List.getElem_toArray, List.getElem_cons_succ, List.getElem_cons_zero, Act.put, List.setIfInBounds_toArray, List.set_cons_zero, List.set_cons_succ]
            refine wpAnyH_take (i := 8) (oi := ⟨_, _, _, _, _, _⟩) (v := .int .i64 (x : Int)) rfl (by kernel_rfl) (by kernel_rfl) (by kernel_rfl) (fun _ _ _ h => h) (Or.inl ⟨by rfl, fun w' hS => by have cc := (hS.cell zg).trans c1; have zz := Nat.lt_of_lt_of_le zg hS.size; go_simp⟩) s0 ?_
            simp only [List.getElem_toArray, List.getElem_cons_succ, List.getElem_cons_zero, Act.put, List.setIfInBounds_toArray, List.set_cons_zero, List.set_cons_succ]
            refine wpAnyH_take (i := 9) (oi := ⟨_, _, _, _, _, _⟩) (v := .slice (some ⟨g, 0, none⟩) N c) rfl (by kernel_rfl) (by kernel_rfl) (by kernel_rfl) (fun _ _ _ h => h) (Or.inl ⟨by rfl, fun w' hS => by go_simp⟩) s0 ?_
            simp only [List.getElem_toArray, List.getElem_cons_succ, List.getElem_cons_zero, Act.put, List.setIfInBounds_toArray, List.set_cons_zero, List.set_cons_succ]
            refine wpAnyH_take (i := 10) (oi := ⟨_, _, _, _, _, _⟩) (v := .int .i64 (j : Int)) rfl (by kernel_rfl) (by kernel_rfl) (by kernel_rfl) (fun _ _ _ h => h) (Or.inl ⟨by rfl, fun w' hS => by go_simp⟩) s0 ?_
            simp only [List.getElem_toArray, List.getElem_cons_succ, List.getElem_cons_zero, Act.put, List.setIfInBounds_toArray, List.set_cons_zero, List.set_cons_succ]
            refine wpAnyH_take (i := 11) (oi := ⟨_, _, _, _, _, _⟩) (v := .int .i64 ((j : Int) - 1)) rfl (by kernel_rfl) (by kernel_rfl) (by kernel_rfl) (fun _ _ _ h => h) (Or.inl ⟨by rfl, fun w' hS => by go_simp⟩) s0 ?_
            simp only [List.getElem_toArray, List.getElem_cons_succ, List.getElem_cons_zero, Act.put, List.setIfInBounds_toArray, List.set_cons_zero, List.set_cons_succ]
            refine wpAnyH_take (i := 12) (oi := ⟨_, _, _, _, _, _⟩) (v := .pointer (some ⟨g, j - 1, none⟩)) rfl (by kernel_rfl) (by kernel_rfl) (by kernel_rfl) (fun _ _ _ h => h) (Or.inl ⟨by rfl, fun w' hS => by go_simp⟩) s0 ?_
            simp only [List.getElem_toArray, List.getElem_cons_succ, List.getElem_cons_zero, Act.put, List.setIfInBounds_toArray, List.set_cons_zero, List.set_cons_succ]
            refine wpAnyH_take (i := 13) (oi := ⟨_, _, _, _, _, _⟩) (v := .int .i64 (y : Int)) rfl (by kernel_rfl) (by kernel_rfl) (by kernel_rfl) (fun _ _ _ h => h) (Or.inl ⟨by rfl, fun w' hS => by have cc := (hS.cell zg).trans c2; have zz := Nat.lt_of_lt_of_le zg hS.size; go_simp⟩) s0 ?_
            simp only [List.getElem_toArray, List.getElem_cons_succ, List.getElem_cons_zero, Act.put, List.setIfInBounds_toArray, List.set_cons_zero, List.set_cons_succ]
            refine wpAnyH_ready (rs := [14]) (by kernel_rfl) (by simp) ?_
            refine AllReadyH.cons rfl (fun K hK => ?_) AllReadyH.nil
            go_simp
            refine (CM.out.run u0 x y (BU) hxN hyN).mono ?_
            rintro e v1 ⟨rfl, q1⟩
            have p1 := s0.trans (q1.mono s0.size)
            refine hK.out _ _ p1 (fun _ => ?_)
            clear hK K s0 q1
            have RV := Lib.hid (RU.below p1)
            have BV := Lib.hid (BU.trans (p1.mono BU.size))
            refine wpAnyH_take (i := 15) (oi := ⟨_, _, _, _, _, _⟩) (v := .bool false) rfl (by kernel_rfl) (by kernel_rfl) (by kernel_rfl) (fun _ _ _ h => h) (Or.inl ⟨by rfl, fun w' hS => by go_simp⟩) p1 ?_
            simp only [List.getElem_toArray, List.getElem_cons_succ, List.getElem_cons_zero, Act.put, List.setIfInBounds_toArray, List.set_cons_zero, List.set_cons_succ]
            refine wpAnyH_take (i := 16) (oi := ⟨_, _, _, _, _, _⟩) (v := .bool false) rfl (by kernel_rfl) (by kernel_rfl) (by kernel_rfl) (fun _ _ _ h => h) (Or.inl ⟨by rfl, fun w' hS => by go_simp⟩) p1 ?_
            simp only [List.getElem_toArray, List.getElem_cons_succ, List.getElem_cons_zero, Act.put, List.setIfInBounds_toArray, List.set_cons_zero, List.set_cons_succ]
            refine wpAnyH_done (by kernel_rfl) ?_ _
            clear zg c1 c2 BU RU c1' c2' zg0
            have OO := Lib.hid (HH.out.1.ins KK.out.1 hja hji (by rw [HN.out]; omega) HV.out (fun _ => ⟨y, HYD.out, bef_total (by omega) hbf⟩) KK.out.2.1)
            go_wp2_with fail
            go_roundw
            case rel => exact ⟨i + 1, _, C, by omega, .inl (by omega), by go_num, rfl, Lib.hid ⟨by rw [show min (i + 1) b = i + 1 by omega]; exact OO.out, RV.out, BV.out⟩⟩
            case measure => simp [intOf]; omega
        · have hgi : ¬ (a : Int) < j := by omega
          have hgd : decide ((a : Int) < j) = false := decide_eq_false hgi
          go_upto_region 4 with (fail)
          obtain ⟨u0, hu0⟩ : ∃ u, u = wr.drew := ⟨_, rfl⟩
          refine wp_region_held_drew (S := fun w' => Below u0.heap.size u0 w') (by kernel_rfl) (by rw [← hu0]; exact Below.refl _ _) (fun s0 => ?_)
          rw [← hu0] at s0 ⊢
          refine wpAnyH_take (i := 0) (oi := ⟨_, _, _, _, _, _⟩) (v := .int .i64 (j : Int)) rfl (by kernel_rfl) (by kernel_rfl) (by kernel_rfl) (fun _ _ _ h => h) (Or.inl ⟨by rfl, fun w' hS => by go_simp⟩) s0 ?_
          simp only [List.getElem_toArray, List.getElem_cons_succ, List.getElem_cons_zero, Act.put, List.setIfInBounds_toArray, List.set_cons_zero, List.set_cons_succ]
          refine wpAnyH_take (i := 1) (oi := ⟨_, _, _, _, _, _⟩) (v := .int .i64 (a : Int)) rfl (by kernel_rfl) (by kernel_rfl) (by kernel_rfl) (fun _ _ _ h => h) (Or.inl ⟨by rfl, fun w' hS => by go_simp⟩) s0 ?_
          simp only [List.getElem_toArray, List.getElem_cons_succ, List.getElem_cons_zero, Act.put, List.setIfInBounds_toArray, List.set_cons_zero, List.set_cons_succ]
          refine wpAnyH_take (i := 2) (oi := ⟨_, _, _, _, _, _⟩) (v := .bool false) rfl (by kernel_rfl) (by kernel_rfl) (by kernel_rfl) (fun _ _ _ h => h) (Or.inl ⟨by rfl, fun w' hS => by go_simp⟩) s0 ?_
          simp only [List.getElem_toArray, List.getElem_cons_succ, List.getElem_cons_zero, Act.put, List.setIfInBounds_toArray, List.set_cons_zero, List.set_cons_succ]
          refine wpAnyH_take (i := 3) (oi := ⟨_, _, _, _, _, _⟩) (v := .bool false) rfl (by kernel_rfl) (by kernel_rfl) (by kernel_rfl) (fun _ _ _ h => h) (Or.inl ⟨by rfl, fun w' hS => by go_simp⟩) s0 ?_
          simp only [List.getElem_toArray, List.getElem_cons_succ, List.getElem_cons_zero, Act.put, List.setIfInBounds_toArray, List.set_cons_zero, List.set_cons_succ]
          have RV := Lib.hid (show RowN u0 w0.heap.size A c C by rw [hu0]; exact RW.out.drew 1)
          have BV := Lib.hid (show Below w0.heap.size w0 u0 by rw [hu0]; exact below_dT BW.out 1)
          clear hu0
          refine wpAnyH_take (i := 4) (oi := ⟨_, _, _, _, _, _⟩) (v := undef) rfl (by kernel_rfl) (by kernel_rfl) (by kernel_rfl) (fun _ _ _ h => h) (Or.inr ⟨by rfl, rfl⟩) s0 ?_
          simp only [List.getElem_toArray, List.getElem_cons_succ, List.getElem_cons_zero, Act.put, List.setIfInBounds_toArray, List.set_cons_zero, List.set_cons_succ]
          refine wpAnyH_take (i := 5) (oi := ⟨_, _, _, _, _, _⟩) (v := undef) rfl (by kernel_rfl) (by kernel_rfl) (by kernel_rfl) (fun _ _ _ h => h) (Or.inr ⟨by rfl, rfl⟩) s0 ?_
          simp only [List.getElem_toArray, List.getElem_cons_succ, List.getElem_cons_zero, Act.put, List.setIfInBounds_toArray, List.set_cons_zero, List.set_cons_succ]
          refine wpAnyH_take (i := 6) (oi := ⟨_, _, _, _, _, _⟩) (v := undef) rfl (by kernel_rfl) (by kernel_rfl) (by kernel_rfl) (fun _ _ _ h => h) (Or.inr ⟨by rfl, rfl⟩) s0 ?_
          simp only [List.getElem_toArray, List.getElem_cons_succ, List.getElem_cons_zero, Act.put, List.setIfInBounds_toArray, List.set_cons_zero, List.set_cons_succ]
          refine wpAnyH_take (i := 7) (oi := ⟨_, _, _, _, _, _⟩) (v := undef) rfl (by kernel_rfl) (by kernel_rfl) (by kernel_rfl) (fun _ _ _ h => h) (Or.inr ⟨by rfl, rfl⟩) s0 ?_
          simp only [List.getElem_toArray, List.getElem_cons_succ, List.getElem_cons_zero, Act.put, List.setIfInBounds_toArray, List.set_cons_zero, List.set_cons_succ]
          refine wpAnyH_take (i := 8) (oi := ⟨_, _, _, _, _, _⟩) (v := undef) rfl (by kernel_rfl) (by kernel_rfl) (by kernel_rfl) (fun _ _ _ h => h) (Or.inr ⟨by rfl, rfl⟩) s0 ?_
          simp only [List.getElem_toArray, List.getElem_cons_succ, List.getElem_cons_zero, Act.put, List.setIfInBounds_toArray, List.set_cons_zero, List.set_cons_succ]
          refine wpAnyH_take (i := 9) (oi := ⟨_, _, _, _, _, _⟩) (v := undef) rfl (by kernel_rfl) (by kernel_rfl) (by kernel_rfl) (fun _ _ _ h => h) (Or.inr ⟨by rfl, rfl⟩) s0 ?_
          simp only [List.getElem_toArray, List.getElem_cons_succ, List.getElem_cons_zero, Act.put, List.setIfInBounds_toArray, List.set_cons_zero, List.set_cons_succ]
          refine wpAnyH_take (i := 10) (oi := ⟨_, _, _, _, _, _⟩) (v := undef) rfl (by kernel_rfl) (by kernel_rfl) (by kernel_rfl) (fun _ _ _ h => h) (Or.inr ⟨by rfl, rfl⟩) s0 ?_
          simp only [List.getElem_toArray, List.getElem_cons_succ, List.getElem_cons_zero, Act.put, List.setIfInBounds_toArray, List.set_cons_zero, List.set_cons_succ]
          refine wpAnyH_take (i := 11) (oi := ⟨_, _, _, _, _, _⟩) (v := undef) rfl (by kernel_rfl) (by kernel_rfl) (by kernel_rfl) (fun _ _ _ h => h) (Or.inr ⟨by rfl, rfl⟩) s0 ?_
          simp only [List.getElem_toArray, List.getElem_cons_succ, List.getElem_cons_zero, Act.put, List.setIfInBounds_toArray, List.set_cons_zero, List.set_cons_succ]
          refine wpAnyH_take (i := 12) (oi := ⟨_, _, _, _, _, _⟩) (v := undef) rfl (by kernel_rfl) (by kernel_rfl) (by kernel_rfl) (fun _ _ _ h => h) (Or.inr ⟨by rfl, rfl⟩) s0 ?_
          simp only [List.getElem_toArray, List.getElem_cons_succ, List.getElem_cons_zero, Act.put, List.setIfInBounds_toArray, List.set_cons_zero, List.set_cons_succ]
          refine wpAnyH_take (i := 13) (oi := ⟨_, _, _, _, _, _⟩) (v := undef) rfl (by kernel_rfl) (by kernel_rfl) (by kernel_rfl) (fun _ _ _ h => h) (Or.inr ⟨by rfl, rfl⟩) s0 ?_
          simp only [List.getElem_toArray, List.getElem_cons_succ, List.getElem_cons_zero, Act.put, List.setIfInBounds_toArray, List.set_cons_zero, List.set_cons_succ]
          refine wpAnyH_ready (rs := [14]) (by kernel_rfl) (by simp) ?_
          refine AllReadyH.cons rfl (fun K hK => ?_) AllReadyH.nil
          rw [if_neg (c := Region.wanted _ _ = true) (by intro h; exact absurd (show false = true from h) (by decide))]
          simp only [List.getElem_toArray, List.getElem_cons_succ, List.getElem_cons_zero, Act.put, List.setIfInBounds_toArray, List.set_cons_zero, List.set_cons_succ]
          refine hK.out _ _ s0 (fun p1 => ?_)
          clear hK K s0
          refine wpAnyH_take (i := 15) (oi := ⟨_, _, _, _, _, _⟩) (v := undef) rfl (by kernel_rfl) (by kernel_rfl) (by kernel_rfl) (fun _ _ _ h => h) (Or.inr ⟨by rfl, rfl⟩) p1 ?_
          simp only [List.getElem_toArray, List.getElem_cons_succ, List.getElem_cons_zero, Act.put, List.setIfInBounds_toArray, List.set_cons_zero, List.set_cons_succ]
          refine wpAnyH_take (i := 16) (oi := ⟨_, _, _, _, _, _⟩) (v := .bool false) rfl (by kernel_rfl) (by kernel_rfl) (by kernel_rfl) (fun _ _ _ h => h) (Or.inl ⟨by rfl, fun w' hS => by go_simp⟩) p1 ?_
          simp only [List.getElem_toArray, List.getElem_cons_succ, List.getElem_cons_zero, Act.put, List.setIfInBounds_toArray, List.set_cons_zero, List.set_cons_succ]
          refine wpAnyH_done (by kernel_rfl) ?_ _
          have OO := Lib.hid (HH.out.1.ins KK.out.1 hja hji (by rw [HN.out]; omega) HV.out (fun e => absurd e hgt) KK.out.2.1)
          go_wp2_with fail
          go_roundw
          case rel => exact ⟨i + 1, _, C, by omega, .inl (by omega), by go_num, rfl, Lib.hid ⟨by rw [show min (i + 1) b = i + 1 by omega]; exact OO.out, RV.out, BV.out⟩⟩
          case measure => simp [intOf]; omega
    · have hd : decide ((i : Int) < b) = false := decide_eq_false (by omega)
      have hmin : min i b = b := by omega
      rw [hmin] at HH
      go_wp2_with fail
      first | go_end0 | go_ret
      exact ⟨rfl, D', HH.out.1, HH.out.2.1, HH.out.2.2⟩
end Go.Proofs.Ytchohcfcnghmlaa
