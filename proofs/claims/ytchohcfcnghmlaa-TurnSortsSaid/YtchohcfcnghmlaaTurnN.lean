/-
  turn: slices.symMergeCmpFunc at places, whole (made by mkTurnN.py).
-/
import Derived.Test.YtchohcfcnghmlaaTurnL
import Derived.Test.YtchohcfcnghmlaaTurnM
import Derived.Deep.DeepCutAuto
namespace Go.Proofs.Ytchohcfcnghmlaa
open Go.RowKit
set_option linter.unusedVariables false
set_option linter.unusedSimpArgs false
/-- What stands behind the rotation, and behind each half. -/
def St3 (l : List R3) (w0 : World) (A : Option Addr) (c : Nat) (D : List Nat) (P : List Nat → Prop) (wr : World) : Prop := ∃ C : List Nat, P C ∧ RowN wr w0.heap.size A c C ∧ Below w0.heap.size w0 wr
set_option maxRecDepth 20000 in
set_option maxHeartbeats 12800000 in
theorem symMerge_3 (l : List R3) (f : Nat) (cb : Array Value) (w0 : World) (A : Option Addr) (c a m b N : Nat) (D : List Nat) (W : World) (cm : Cmp l N w0 f cb) (h : RowN W w0.heap.size A c D) (hw : Below w0.heap.size w0 W) (hN : D.length = N) (hN2 : N ≤ 1000) (ham : a < m) (hmb : m < b) (hb : b ≤ N) (hlt : ∀ v ∈ D, v < N) (h1 : Srt l D a m) (h2 : Srt l D m b) (hli : LI D a m b) (hn1 : ¬ m = a + 1) (hn2 : ¬ b = m + 1) (K : Nat) (hK : b - a = K) (IH : ∀ (a m b : Nat) (D : List Nat) (W : World), b - a < K → RowN W w0.heap.size A c D → Below w0.heap.size w0 W → D.length = N → a < m → m < b → b ≤ N → (∀ v ∈ D, v < N) → Srt l D a m → Srt l D m b → LI D a m b → Calls Try.prog 24 #[.slice A N c, .int .i64 (a : Int), .int .i64 (m : Int), .int .i64 (b : Int), .func (.func f) #[] cb] W fun r w' => r = .returned (.tuple #[]) ∧ ∃ D' : List Nat, Ord l D D' a b ∧ RowN w' w0.heap.size A c D' ∧ Below w0.heap.size w0 w') :
    Calls Try.prog 24 #[.slice A N c, .int .i64 (a : Int), .int .i64 (m : Int), .int .i64 (b : Int), .func (.func f) #[] cb] W fun r w' => r = .returned (.tuple #[]) ∧ ∃ D' : List Nat, Ord l D D' a b ∧ RowN w' w0.heap.size A c D' ∧ Below w0.heap.size w0 w' := by
  have HIH := Lib.hid IH
  have CM := Lib.hid cm
  have HR := Lib.hid h
  have HW := Lib.hid hw
  have HLT := Lib.hid hlt
  have H1 := Lib.hid h1
  have H2 := Lib.hid h2
  have HLI := Lib.hid hli
  have eg := cm.eg
  clear cm h hw hlt h1 h2 hli
  clear IH
  obtain ⟨mid, hmid⟩ : ∃ k, k = (a + b) / 2 := ⟨_, rfl⟩
  obtain ⟨n, hn⟩ : ∃ k, k = mid + m := ⟨_, rfl⟩
  obtain ⟨lo, hlo⟩ : ∃ k, k = if mid < m then mid + m - b else a := ⟨_, rfl⟩
  obtain ⟨hi, hhi⟩ : ∃ k, k = if mid < m then mid else m := ⟨_, rfl⟩
  have b1 : a ≤ lo ∧ mid + m - b ≤ lo ∧ (lo = mid + m - b ∨ lo = a) := by rw [hlo]; split <;> omega
  have b2 : hi ≤ mid ∧ hi ≤ m ∧ (hi = mid ∨ hi = m) := by rw [hhi]; split <;> omega
  have e3 : ¬ (m : Int) - a = 1 := by omega
  have e4 : decide ((m : Int) - a = 1) = false := decide_eq_false e3
  have e7 : ((m : Int) - a == 1) = false := by simpa using e3
  have e5 : ¬ (b : Int) - m = 1 := by omega
  have e8 : ((b : Int) - m == 1) = false := by simpa using e5
  have e6 : decide ((b : Int) - m = 1) = false := decide_eq_false e5
  have w1 : IntKind.i64.wrap ((m : Int) - a) = (m : Int) - a := IntWalk.i64_in _ (by omega)
  have w2 : IntKind.i64.wrap ((b : Int) - m) = (b : Int) - m := IntWalk.i64_in _ (by omega)
  have w3 : IntKind.i64.wrap ((a : Int) + b) = (a : Int) + b := IntWalk.i64_in _ (by omega)
  have w4 : IntKind.u64.wrap ((a : Int) + b) = (a : Int) + b := IntWalk.u64_in _ (by omega)
  have w5 : ((a : Int) + b) / 2 = (mid : Int) := by omega
  have w6 : IntKind.i64.wrap (mid : Int) = (mid : Int) := IntWalk.i64_in _ (by omega)
  have w7 : IntKind.u64.wrap (mid : Int) = (mid : Int) := IntWalk.u64_in _ (by omega)
  have w8 : (mid : Int) + m = (n : Int) := by omega
  have w9 : IntKind.i64.wrap (n : Int) = (n : Int) := IntWalk.i64_in _ (by omega)
  have w10 : IntKind.i64.wrap ((n : Int) - b) = (n : Int) - b := IntWalk.i64_in _ (by omega)
  have w11 : IntKind.i64.wrap ((n : Int) - 1) = (n : Int) - 1 := IntWalk.i64_in _ (by omega)
  obtain ⟨PP, hPP⟩ : ∃ PP : Nat → Prop, PP = fun s => s = lo ∨ ∃ u v, D[s - 1]? = some u ∧ D[n - s]? = some v ∧ bef l u v = true := ⟨_, rfl⟩
  obtain ⟨QQ, hQQ⟩ : ∃ QQ : Nat → Prop, QQ = fun s => s = hi ∨ ∃ u v, D[n - s - 1]? = some u ∧ D[s]? = some v ∧ bef l u v = true := ⟨_, rfl⟩
  obtain ⟨RR, hRR⟩ : ∃ RR : World → Prop, RR = fun wr => RowN wr w0.heap.size A c D ∧ Below w0.heap.size w0 wr := ⟨_, rfl⟩
  have EP := Lib.hid hPP
  have EQ := Lib.hid hQQ
  have ER := Lib.hid hRR
  have HMID := Lib.hid hmid
  have HNN := Lib.hid hn
  have HLO := Lib.hid hlo
  have HHI := Lib.hid hhi
  have lohi : lo ≤ hi := by omega
  have mm : 2 * mid ≤ a + b ∧ a + b ≤ 2 * mid + 1 := by omega
  clear hPP hQQ hRR hmid hn hlo hhi
  go_enter Try.func24, Try.ntmps24
  go_upto_if 140 with (fail)
  go_cut [20, 21] (fun p q wr => wr = W ∧ p = .int .i64 (lo : Int) ∧ q = .int .i64 (hi : Int))
  case first =>
    as_aux_lemma =>
    by_cases hc : mid < m
    · have hci : (mid : Int) < m := by omega
      have hlo2 := Lib.hid (show (n : Int) - b = (lo : Int) by rw [HLO.out, if_pos hc]; omega)
      have hhi2 := Lib.hid (show (mid : Int) = (hi : Int) by rw [HHI.out, if_pos hc])
      go_wp2_with fail
      go_meet
      exact ⟨rfl, by rw [hlo2.out], by rw [hhi2.out]⟩
    · have hci : ¬ (mid : Int) < m := by omega
      have hcd : decide ((mid : Int) < m) = false := decide_eq_false hci
      have hlo2 := Lib.hid (show (a : Int) = (lo : Int) by rw [HLO.out, if_neg hc])
      have hhi2 := Lib.hid (show (m : Int) = (hi : Int) by rw [HHI.out, if_neg hc])
      go_wp2_with fail
      go_meet
      exact ⟨rfl, by rw [hlo2.out], by rw [hhi2.out]⟩
  case rest =>
    as_aux_lemma =>
    obtain ⟨rfl, rfl, rfl⟩ := hcut
    go_wp2_with fail
    go_loopw [20, 21, 23] (fun p q z wr => Rs lo hi PP QQ RR p q wr) (fun p q _ _ => (intOf q).toNat - (intOf p).toNat)
    case atStart => exact Rs.mk lo hi (by omega) (by omega) (by omega) rfl rfl (by rw [EP.out]; exact .inl rfl) (by rw [EQ.out]; exact .inl rfl) (by rw [ER.out]; exact ⟨HR.out, HW.out⟩)
    case round =>
      as_aux_lemma =>
      obtain ⟨i, j, hil, hij, hjh, rfl, rfl, hP, hQ, hR⟩ := hrel
      rw [EP.out] at hP
      rw [EQ.out] at hQ
      rw [ER.out] at hR
      have KK := Lib.hid (show (i = lo ∨ ∃ u v, D[i - 1]? = some u ∧ D[n - i]? = some v ∧ bef l u v = true) ∧ (j = hi ∨ ∃ u v, D[n - j - 1]? = some u ∧ D[j]? = some v ∧ bef l u v = true) ∧ RowN wr w0.heap.size A c D ∧ Below w0.heap.size w0 wr from ⟨hP, hQ, hR.1, hR.2⟩)
      clear hP hQ hR
      have RW := Lib.hid KK.out.2.2.1
      have BW := Lib.hid KK.out.2.2.2
      by_cases hlt : i < j
      · have hlti : (i : Int) < j := by omega
        obtain ⟨h, hh⟩ : ∃ h : Nat, h = (i + j) / 2 := ⟨_, rfl⟩
        have hw1 : IntKind.i64.wrap ((i : Int) + j) = (i : Int) + j := IntWalk.i64_in _ (by omega)
        have hw2 : IntKind.u64.wrap ((i : Int) + j) = (i : Int) + j := IntWalk.u64_in _ (by omega)
        have hd2 : ((i : Int) + j) / 2 = (h : Int) := by omega
        have hw3 : IntKind.i64.wrap (h : Int) = (h : Int) := IntWalk.i64_in _ (by omega)
        have hw4 : IntKind.u64.wrap (h : Int) = (h : Int) := IntWalk.u64_in _ (by omega)
        have hhn : i ≤ h ∧ h < j := by omega
        have HH := Lib.hid hh
        clear hh
        have r1 : m ≤ n - 1 - h ∧ n - 1 - h < b := by omega
        obtain ⟨g, x, eA, hgB, zg0, hx, c1', _, _⟩ := RW.out.at_ (i := n - 1 - h) (by omega)
        obtain ⟨g2, y, eA2, _, _, hy, c2', _, _⟩ := RW.out.at_ (i := h) (by omega)
        subst eA
        injection eA2 with eA2
        injection eA2 with eA2
        subst eA2
        have xN : x < N := HLT.out x (List.mem_of_getElem? hx)
        have yN : y < N := HLT.out y (List.mem_of_getElem? hy)
        have hyx : y < x := HLI.out h (n - 1 - h) y x (by omega) (by omega) (by omega) (by omega) hy hx
        have hcb := cmp_bef l hyx
        have HX := Lib.hid hx
        have HY := Lib.hid hy
        have q1 : (h : Int) < N := by omega
        have q2 : (n : Int) - 1 - h < N := by omega
        have q3 : (0 : Int) ≤ (n : Int) - 1 - h := by omega
        have q4 : ¬ (n : Int) - 1 < h := by omega
        have q5 : (h : Int) ≤ (n : Int) - 1 := by omega
        have w12 : IntKind.i64.wrap ((n : Int) - 1 - h) = (n : Int) - 1 - h := IntWalk.i64_in _ (by omega)
        have t1 : ((n : Int) - 1 - h).toNat = n - 1 - h := by omega
        clear hx hy
        by_cases hbf : bef l x y = true
        · as_aux_lemma =>
          have hneg : cmp3 (rk l x) (rk l y) < 0 := hcb.2 hbf
          have hnd : decide (cmp3 (rk l x) (rk l y) < 0) = true := decide_eq_true hneg
          go_upto_region 35 with (fail)
          obtain ⟨u0, hu0⟩ : ∃ u, u = wr.drew := ⟨_, rfl⟩
          refine wp_region_held_drew (S := fun w' => Below u0.heap.size u0 w') (by kernel_rfl) (by rw [← hu0]; exact Below.refl _ _) (fun s0 => ?_)
          rw [← hu0] at s0 ⊢
          have zg : g < u0.heap.size := by rw [hu0]; exact zg0
          have c1 : u0.cell? ⟨g, n - 1 - h, none⟩ = some (.int .i64 (x : Int)) := by rw [hu0]; exact c1'
          have c2 : u0.cell? ⟨g, h, none⟩ = some (.int .i64 (y : Int)) := by rw [hu0]; exact c2'
          have BU : Below w0.heap.size w0 u0 := by rw [hu0]; exact below_dT BW.out 1
          have RU : RowN u0 w0.heap.size (some ⟨g, 0, none⟩) c D := by rw [hu0]; exact RW.out.drew 1
          clear hu0
          refine wpAnyH_take (i := 0) (oi := ⟨_, _, _, _, _, _⟩) (v := .func (.func f) #[] cb) rfl (by kernel_rfl) (by kernel_rfl) (by kernel_rfl) (fun _ _ _ h => h) (Or.inl ⟨by rfl, fun w' hS => by go_simp⟩) s0 ?_
          simp only [List.getElem_toArray, List.getElem_cons_succ, List.getElem_cons_zero, Act.put, List.setIfInBounds_toArray, List.set_cons_zero, List.set_cons_succ]
          refine wpAnyH_take (i := 1) (oi := ⟨_, _, _, _, _, _⟩) (v := .slice (some ⟨g, 0, none⟩) N c) rfl (by kernel_rfl) (by kernel_rfl) (by kernel_rfl) (fun _ _ _ h => h) (Or.inl ⟨by rfl, fun w' hS => by go_simp⟩) s0 ?_
          simp only [List.getElem_toArray, List.getElem_cons_succ, List.getElem_cons_zero, Act.put, List.setIfInBounds_toArray, List.set_cons_zero, List.set_cons_succ]
          refine wpAnyH_take (i := 2) (oi := ⟨_, _, _, _, _, _⟩) (v := .int .i64 ((n : Int) - 1)) rfl (by kernel_rfl) (by kernel_rfl) (by kernel_rfl) (fun _ _ _ h => h) (Or.inl ⟨by rfl, fun w' hS => by go_simp⟩) s0 ?_
          simp only [List.getElem_toArray, List.getElem_cons_succ, List.getElem_cons_zero, Act.put, List.setIfInBounds_toArray, List.set_cons_zero, List.set_cons_succ]
          refine wpAnyH_take (i := 3) (oi := ⟨_, _, _, _, _, _⟩) (v := .int .i64 (h : Int)) rfl (by kernel_rfl) (by kernel_rfl) (by kernel_rfl) (fun _ _ _ h => h) (Or.inl ⟨by rfl, fun w' hS => by go_simp⟩) s0 ?_
          simp only [List.getElem_toArray, List.getElem_cons_succ, List.getElem_cons_zero, Act.put, List.setIfInBounds_toArray, List.set_cons_zero, List.set_cons_succ]
          refine wpAnyH_take (i := 4) (oi := ⟨_, _, _, _, _, _⟩) (v := .int .i64 ((n : Int) - 1 - h)) rfl (by kernel_rfl) (by kernel_rfl) (by kernel_rfl) (fun _ _ _ h => h) (Or.inl ⟨by rfl, fun w' hS => by go_simp⟩) s0 ?_
          simp only [List.getElem_toArray, List.getElem_cons_succ, List.getElem_cons_zero, Act.put, List.setIfInBounds_toArray, List.set_cons_zero, List.set_cons_succ]
          refine wpAnyH_take (i := 5) (oi := ⟨_, _, _, _, _, _⟩) (v := .pointer (some ⟨g, n - 1 - h, none⟩)) rfl (by kernel_rfl) (by kernel_rfl) (by kernel_rfl) (fun _ _ _ h => h) (Or.inl ⟨by rfl, fun w' hS => by go_simp⟩) s0 ?_
          simp only [List.getElem_toArray, List.getElem_cons_succ, List.getElem_cons_zero, Act.put, List.setIfInBounds_toArray, List.set_cons_zero, List.set_cons_succ]
          refine wpAnyH_take (i := 6) (oi := ⟨_, _, _, _, _, _⟩) (v := .int .i64 (x : Int)) rfl (by kernel_rfl) (by kernel_rfl) (by kernel_rfl) (fun _ _ _ h => h) (Or.inl ⟨by rfl, fun w' hS => by have cc := (hS.cell zg).trans c1; have zz := Nat.lt_of_lt_of_le zg hS.size; go_simp⟩) s0 ?_
          simp only [List.getElem_toArray, List.getElem_cons_succ, List.getElem_cons_zero, Act.put, List.setIfInBounds_toArray, List.set_cons_zero, List.set_cons_succ]
          refine wpAnyH_take (i := 7) (oi := ⟨_, _, _, _, _, _⟩) (v := .slice (some ⟨g, 0, none⟩) N c) rfl (by kernel_rfl) (by kernel_rfl) (by kernel_rfl) (fun _ _ _ h => h) (Or.inl ⟨by rfl, fun w' hS => by go_simp⟩) s0 ?_
          simp only [List.getElem_toArray, List.getElem_cons_succ, List.getElem_cons_zero, Act.put, List.setIfInBounds_toArray, List.set_cons_zero, List.set_cons_succ]
          refine wpAnyH_take (i := 8) (oi := ⟨_, _, _, _, _, _⟩) (v := .int .i64 (h : Int)) rfl (by kernel_rfl) (by kernel_rfl) (by kernel_rfl) (fun _ _ _ h => h) (Or.inl ⟨by rfl, fun w' hS => by go_simp⟩) s0 ?_
          simp only [List.getElem_toArray, List.getElem_cons_succ, List.getElem_cons_zero, Act.put, List.setIfInBounds_toArray, List.set_cons_zero, List.set_cons_succ]
          refine wpAnyH_take (i := 9) (oi := ⟨_, _, _, _, _, _⟩) (v := .pointer (some ⟨g, h, none⟩)) rfl (by kernel_rfl) (by kernel_rfl) (by kernel_rfl) (fun _ _ _ h => h) (Or.inl ⟨by rfl, fun w' hS => by go_simp⟩) s0 ?_
          simp only [List.getElem_toArray, List.getElem_cons_succ, List.getElem_cons_zero, Act.put, List.setIfInBounds_toArray, List.set_cons_zero, List.set_cons_succ]
          refine wpAnyH_take (i := 10) (oi := ⟨_, _, _, _, _, _⟩) (v := .int .i64 (y : Int)) rfl (by kernel_rfl) (by kernel_rfl) (by kernel_rfl) (fun _ _ _ h => h) (Or.inl ⟨by rfl, fun w' hS => by have cc := (hS.cell zg).trans c2; have zz := Nat.lt_of_lt_of_le zg hS.size; go_simp⟩) s0 ?_
          simp only [List.getElem_toArray, List.getElem_cons_succ, List.getElem_cons_zero, Act.put, List.setIfInBounds_toArray, List.set_cons_zero, List.set_cons_succ]
          refine wpAnyH_ready (rs := [11]) (by kernel_rfl) (by simp) ?_
          refine AllReadyH.cons rfl (fun K hK => ?_) AllReadyH.nil
          go_simp
          refine (CM.out.run u0 x y BU xN yN).mono ?_
          rintro e v1 ⟨rfl, q1⟩
          have p1 := s0.trans (q1.mono s0.size)
          refine hK.out _ _ p1 (fun _ => ?_)
          clear hK K s0 q1
          have RV := Lib.hid (RU.below p1)
          have BV := Lib.hid (BU.trans (p1.mono BU.size))
          refine wpAnyH_take (i := 12) (oi := ⟨_, _, _, _, _, _⟩) (v := .bool true) rfl (by kernel_rfl) (by kernel_rfl) (by kernel_rfl) (fun _ _ _ h => h) (Or.inl ⟨by rfl, fun w' hS => by go_simp⟩) p1 ?_
          simp only [List.getElem_toArray, List.getElem_cons_succ, List.getElem_cons_zero, Act.put, List.setIfInBounds_toArray, List.set_cons_zero, List.set_cons_succ]
          refine wpAnyH_take (i := 13) (oi := ⟨_, _, _, _, _, _⟩) (v := .bool false) rfl (by kernel_rfl) (by kernel_rfl) (by kernel_rfl) (fun _ _ _ h => h) (Or.inl ⟨by rfl, fun w' hS => by go_simp⟩) p1 ?_
          simp only [List.getElem_toArray, List.getElem_cons_succ, List.getElem_cons_zero, Act.put, List.setIfInBounds_toArray, List.set_cons_zero, List.set_cons_succ]
          refine wpAnyH_done (by kernel_rfl) ?_ _
          clear zg c1 c2 BU RU c1' c2' zg0
          go_wp2_with fail
          go_roundw
          case rel => exact Rs.mk i h hil (by omega) (by omega) rfl rfl (by rw [EP.out]; exact KK.out.1) (by rw [EQ.out]; exact .inr ⟨x, y, by rw [show n - h - 1 = n - 1 - h by omega]; exact HX.out, HY.out, hbf⟩) (by rw [ER.out]; exact ⟨RV.out, BV.out⟩)
          case measure => simp [intOf]; omega
        · as_aux_lemma =>
          have hneg : ¬ cmp3 (rk l x) (rk l y) < 0 := fun e => hbf (hcb.1 e)
          have hnd : decide (cmp3 (rk l x) (rk l y) < 0) = false := decide_eq_false hneg
          go_upto_region 35 with (fail)
          obtain ⟨u0, hu0⟩ : ∃ u, u = wr.drew := ⟨_, rfl⟩
          refine wp_region_held_drew (S := fun w' => Below u0.heap.size u0 w') (by kernel_rfl) (by rw [← hu0]; exact Below.refl _ _) (fun s0 => ?_)
          rw [← hu0] at s0 ⊢
          have zg : g < u0.heap.size := by rw [hu0]; exact zg0
          have c1 : u0.cell? ⟨g, n - 1 - h, none⟩ = some (.int .i64 (x : Int)) := by rw [hu0]; exact c1'
          have c2 : u0.cell? ⟨g, h, none⟩ = some (.int .i64 (y : Int)) := by rw [hu0]; exact c2'
          have BU : Below w0.heap.size w0 u0 := by rw [hu0]; exact below_dT BW.out 1
          have RU : RowN u0 w0.heap.size (some ⟨g, 0, none⟩) c D := by rw [hu0]; exact RW.out.drew 1
          clear hu0
          refine wpAnyH_take (i := 0) (oi := ⟨_, _, _, _, _, _⟩) (v := .func (.func f) #[] cb) rfl (by kernel_rfl) (by kernel_rfl) (by kernel_rfl) (fun _ _ _ h => h) (Or.inl ⟨by rfl, fun w' hS => by go_simp⟩) s0 ?_
          simp only [List.getElem_toArray, List.getElem_cons_succ, List.getElem_cons_zero, Act.put, List.setIfInBounds_toArray, List.set_cons_zero, List.set_cons_succ]
          refine wpAnyH_take (i := 1) (oi := ⟨_, _, _, _, _, _⟩) (v := .slice (some ⟨g, 0, none⟩) N c) rfl (by kernel_rfl) (by kernel_rfl) (by kernel_rfl) (fun _ _ _ h => h) (Or.inl ⟨by rfl, fun w' hS => by go_simp⟩) s0 ?_
          simp only [List.getElem_toArray, List.getElem_cons_succ, List.getElem_cons_zero, Act.put, List.setIfInBounds_toArray, List.set_cons_zero, List.set_cons_succ]
          refine wpAnyH_take (i := 2) (oi := ⟨_, _, _, _, _, _⟩) (v := .int .i64 ((n : Int) - 1)) rfl (by kernel_rfl) (by kernel_rfl) (by kernel_rfl) (fun _ _ _ h => h) (Or.inl ⟨by rfl, fun w' hS => by go_simp⟩) s0 ?_
          simp only [List.getElem_toArray, List.getElem_cons_succ, List.getElem_cons_zero, Act.put, List.setIfInBounds_toArray, List.set_cons_zero, List.set_cons_succ]
          refine wpAnyH_take (i := 3) (oi := ⟨_, _, _, _, _, _⟩) (v := .int .i64 (h : Int)) rfl (by kernel_rfl) (by kernel_rfl) (by kernel_rfl) (fun _ _ _ h => h) (Or.inl ⟨by rfl, fun w' hS => by go_simp⟩) s0 ?_
          simp only [List.getElem_toArray, List.getElem_cons_succ, List.getElem_cons_zero, Act.put, List.setIfInBounds_toArray, List.set_cons_zero, List.set_cons_succ]
          refine wpAnyH_take (i := 4) (oi := ⟨_, _, _, _, _, _⟩) (v := .int .i64 ((n : Int) - 1 - h)) rfl (by kernel_rfl) (by kernel_rfl) (by kernel_rfl) (fun _ _ _ h => h) (Or.inl ⟨by rfl, fun w' hS => by go_simp⟩) s0 ?_
          simp only [List.getElem_toArray, List.getElem_cons_succ, List.getElem_cons_zero, Act.put, List.setIfInBounds_toArray, List.set_cons_zero, List.set_cons_succ]
          refine wpAnyH_take (i := 5) (oi := ⟨_, _, _, _, _, _⟩) (v := .pointer (some ⟨g, n - 1 - h, none⟩)) rfl (by kernel_rfl) (by kernel_rfl) (by kernel_rfl) (fun _ _ _ h => h) (Or.inl ⟨by rfl, fun w' hS => by go_simp⟩) s0 ?_
          simp only [List.getElem_toArray, List.getElem_cons_succ, List.getElem_cons_zero, Act.put, List.setIfInBounds_toArray, List.set_cons_zero, List.set_cons_succ]
          refine wpAnyH_take (i := 6) (oi := ⟨_, _, _, _, _, _⟩) (v := .int .i64 (x : Int)) rfl (by kernel_rfl) (by kernel_rfl) (by kernel_rfl) (fun _ _ _ h => h) (Or.inl ⟨by rfl, fun w' hS => by have cc := (hS.cell zg).trans c1; have zz := Nat.lt_of_lt_of_le zg hS.size; go_simp⟩) s0 ?_
          simp only [List.getElem_toArray, List.getElem_cons_succ, List.getElem_cons_zero, Act.put, List.setIfInBounds_toArray, List.set_cons_zero, List.set_cons_succ]
          refine wpAnyH_take (i := 7) (oi := ⟨_, _, _, _, _, _⟩) (v := .slice (some ⟨g, 0, none⟩) N c) rfl (by kernel_rfl) (by kernel_rfl) (by kernel_rfl) (fun _ _ _ h => h) (Or.inl ⟨by rfl, fun w' hS => by go_simp⟩) s0 ?_
          simp only [List.getElem_toArray, List.getElem_cons_succ, List.getElem_cons_zero, Act.put, List.setIfInBounds_toArray, List.set_cons_zero, List.set_cons_succ]
          refine wpAnyH_take (i := 8) (oi := ⟨_, _, _, _, _, _⟩) (v := .int .i64 (h : Int)) rfl (by kernel_rfl) (by kernel_rfl) (by kernel_rfl) (fun _ _ _ h => h) (Or.inl ⟨by rfl, fun w' hS => by go_simp⟩) s0 ?_
          simp only [List.getElem_toArray, List.getElem_cons_succ, List.getElem_cons_zero, Act.put, List.setIfInBounds_toArray, List.set_cons_zero, List.set_cons_succ]
          refine wpAnyH_take (i := 9) (oi := ⟨_, _, _, _, _, _⟩) (v := .pointer (some ⟨g, h, none⟩)) rfl (by kernel_rfl) (by kernel_rfl) (by kernel_rfl) (fun _ _ _ h => h) (Or.inl ⟨by rfl, fun w' hS => by go_simp⟩) s0 ?_
          simp only [List.getElem_toArray, List.getElem_cons_succ, List.getElem_cons_zero, Act.put, List.setIfInBounds_toArray, List.set_cons_zero, List.set_cons_succ]
          refine wpAnyH_take (i := 10) (oi := ⟨_, _, _, _, _, _⟩) (v := .int .i64 (y : Int)) rfl (by kernel_rfl) (by kernel_rfl) (by kernel_rfl) (fun _ _ _ h => h) (Or.inl ⟨by rfl, fun w' hS => by have cc := (hS.cell zg).trans c2; have zz := Nat.lt_of_lt_of_le zg hS.size; go_simp⟩) s0 ?_
          simp only [List.getElem_toArray, List.getElem_cons_succ, List.getElem_cons_zero, Act.put, List.setIfInBounds_toArray, List.set_cons_zero, List.set_cons_succ]
          refine wpAnyH_ready (rs := [11]) (by kernel_rfl) (by simp) ?_
          refine AllReadyH.cons rfl (fun K hK => ?_) AllReadyH.nil
          go_simp
          refine (CM.out.run u0 x y BU xN yN).mono ?_
          rintro e v1 ⟨rfl, q1⟩
          have p1 := s0.trans (q1.mono s0.size)
          refine hK.out _ _ p1 (fun _ => ?_)
          clear hK K s0 q1
          have RV := Lib.hid (RU.below p1)
          have BV := Lib.hid (BU.trans (p1.mono BU.size))
          refine wpAnyH_take (i := 12) (oi := ⟨_, _, _, _, _, _⟩) (v := .bool false) rfl (by kernel_rfl) (by kernel_rfl) (by kernel_rfl) (fun _ _ _ h => h) (Or.inl ⟨by rfl, fun w' hS => by go_simp⟩) p1 ?_
          simp only [List.getElem_toArray, List.getElem_cons_succ, List.getElem_cons_zero, Act.put, List.setIfInBounds_toArray, List.set_cons_zero, List.set_cons_succ]
          refine wpAnyH_take (i := 13) (oi := ⟨_, _, _, _, _, _⟩) (v := .bool true) rfl (by kernel_rfl) (by kernel_rfl) (by kernel_rfl) (fun _ _ _ h => h) (Or.inl ⟨by rfl, fun w' hS => by go_simp⟩) p1 ?_
          simp only [List.getElem_toArray, List.getElem_cons_succ, List.getElem_cons_zero, Act.put, List.setIfInBounds_toArray, List.set_cons_zero, List.set_cons_succ]
          refine wpAnyH_done (by kernel_rfl) ?_ _
          clear zg c1 c2 BU RU c1' c2' zg0
          go_wp2_with fail
          go_roundw
          case rel => exact Rs.mk (h + 1) j (by omega) (by omega) hjh (by go_num) rfl (by rw [EP.out]; exact .inr ⟨y, x, by simpa using HY.out, by rw [show n - (h + 1) = n - 1 - h by omega]; exact HX.out, bef_total (by omega) hbf⟩) (by rw [EQ.out]; exact KK.out.2.1) (by rw [ER.out]; exact ⟨RV.out, BV.out⟩)
          case measure => simp [intOf]; omega
      · as_aux_lemma =>
        have hd : decide ((i : Int) < j) = false := decide_eq_false (by omega)
        obtain rfl : i = j := by omega
        obtain ⟨e, he⟩ : ∃ e, e = n - i := ⟨_, rfl⟩
        have HE := Lib.hid he
        have he2 : (n : Int) - i = (e : Int) := by omega
        have w12 : IntKind.i64.wrap (e : Int) = (e : Int) := IntWalk.i64_in _ (by omega)
        have eb : i ≤ m ∧ m ≤ e ∧ e ≤ b ∧ a ≤ i ∧ i ≤ mid ∧ mid ≤ e := by omega
        clear he hlt hd
        go_upto_region 39 with (fail)
        go_cut [185] (fun t wx => wx = wr ∧ t = .bool (decide (i < m) && decide (m < e)))
        case first =>
          as_aux_lemma =>
          by_cases k1 : (i : Int) < m
          · by_cases k2 : (m : Int) < e
            · have k3 : i < m := by omega
              have k4 : m < e := by omega
              go_wp2_with fail
              go_meet
              exact ⟨rfl, by simp [k3, k4]⟩
            · have k3 : i < m := by omega
              have k4 : ¬ m < e := by omega
              have k5 : decide ((m : Int) < e) = false := decide_eq_false k2
              go_wp2_with fail
              go_meet
              exact ⟨rfl, by simp [k3]; omega⟩
          · have k3 : ¬ i < m := by omega
            have k5 : decide ((i : Int) < m) = false := decide_eq_false k1
            go_wp2_with fail
            go_meet
            exact ⟨rfl, by simp; omega⟩
        case rest =>
        as_aux_lemma =>
        obtain ⟨rfl, rfl⟩ := hcut
        go_upto_if 185 with (fail)
        go_cut [] (fun wr => St3 l w0 A c D (fun C => C.length = D.length ∧ C.Perm D ∧ ∀ x, C[x]? = rotF D i m e x) wr)
        case first =>
          as_aux_lemma =>
          by_cases hs1 : i < m
          · by_cases hs2 : m < e
            · have RO := rotate_any A c i m e w0.heap.size (.func (.func f) #[] cb) D wc RW.out (by omega) hs1 hs2 (by omega)
              rw [hN] at RO
              have HRO := Lib.hid RO
              have k1 : decide (i < m) = true := decide_eq_true hs1
              have k2 : decide (m < e) = true := decide_eq_true hs2
              clear RO
              go_wp2_with fail
              refine HRO.out.mono ?_
              rintro _ w2 ⟨rfl, C, hl, hp, hx, hr, hb2⟩
              have Z := Lib.hid (show St3 l w0 A c D (fun C => C.length = D.length ∧ C.Perm D ∧ ∀ x, C[x]? = rotF D i m e x) w2 from ⟨C, ⟨hl.trans hN.symm, hp, hx⟩, hr, BW.out.trans hb2⟩)
              clear hl hp hx hr hb2
              go_wp2_with fail
              go_meet
              exact Z.out
            · have k3 : decide (m < e) = false := decide_eq_false hs2
              have Z := Lib.hid (show St3 l w0 A c D (fun C => C.length = D.length ∧ C.Perm D ∧ ∀ x, C[x]? = rotF D i m e x) wc from ⟨D, ⟨rfl, List.Perm.refl _, fun x => by unfold rotF; split; rw [if_neg (by omega), show x - (e - m) = x by omega]; rfl⟩, RW.out, BW.out⟩)
              go_wp2_with fail
              go_meet
              exact Z.out
          · have k3 : decide (i < m) = false := decide_eq_false hs1
            have Z := Lib.hid (show St3 l w0 A c D (fun C => C.length = D.length ∧ C.Perm D ∧ ∀ x, C[x]? = rotF D i m e x) wc from ⟨D, ⟨rfl, List.Perm.refl _, fun x => by
              unfold rotF
              split
              · rw [if_pos (by omega), show m + (x - i) = x by omega]
              · rfl⟩, RW.out, BW.out⟩)
            go_wp2_with fail
            go_meet
            exact Z.out
        case rest =>
          as_aux_lemma =>
          obtain ⟨C1, ⟨cl1, cp1, cx1⟩, cr1, cb1⟩ := hcut
          have HF := Lib.hid (halves (lo := lo) (hi := hi) ham hmb HMID.out H1.out H2.out HLI.out HLO.out HHI.out hil hjh (show e = mid + m - i by rw [HE.out, HNN.out]) (by rw [HE.out]; exact KK.out.1) (by rw [HE.out]; exact KK.out.2.1) cx1)
          have CL1 := Lib.hid (And.intro cl1 cp1)
          have CR1 := Lib.hid cr1
          have CB1 := Lib.hid cb1
          have V1 := Lib.hid (show ∀ v ∈ C1, v < N from fun v hv => HLT.out v (cp1.mem_iff.1 hv))
          have cN1 : C1.length = N := cl1.trans hN
          clear cl1 cp1 cx1 cr1 cb1
          go_upto_region 41 with (fail)
          go_cut [199] (fun t wx => wx = wc ∧ t = .bool (decide (a < i) && decide (i < mid)))
          case first =>
            as_aux_lemma =>
            by_cases k1 : (a : Int) < i
            · by_cases k2 : (i : Int) < mid
              · have k3 : a < i := by omega
                have k4 : i < mid := by omega
                go_wp2_with fail
                go_meet
                exact ⟨rfl, by simp [k3, k4]⟩
              · have k3 : a < i := by omega
                have k4 : ¬ i < mid := by omega
                have k5 : decide ((i : Int) < mid) = false := decide_eq_false k2
                go_wp2_with fail
                go_meet
                exact ⟨rfl, by simp [k3]; omega⟩
            · have k3 : ¬ a < i := by omega
              have k5 : decide ((a : Int) < i) = false := decide_eq_false k1
              go_wp2_with fail
              go_meet
              exact ⟨rfl, by simp; omega⟩
          case rest =>
          as_aux_lemma =>
          obtain ⟨rfl, rfl⟩ := hcut
          go_upto_if 199 with (fail)
          go_cut [] (fun wr => St3 l w0 A c D (fun C => Ord l C1 C a mid) wr)
          case first =>
            as_aux_lemma =>
            by_cases hs1 : a < i
            · by_cases hs2 : i < mid
              · have RO := HIH.out a i mid C1 wc (by omega) CR1.out CB1.out cN1 hs1 hs2 (by omega) V1.out HF.out.s1 HF.out.s2 HF.out.l1
                have HRO := Lib.hid RO
                have k1 : decide (a < i) = true := decide_eq_true hs1
                have k2 : decide (i < mid) = true := decide_eq_true hs2
                clear RO
                go_wp2_with fail
                refine HRO.out.mono ?_
                rintro _ w2 ⟨rfl, C, ho, hr, hb2⟩
                have Z := Lib.hid (show St3 l w0 A c D (fun C => Ord l C1 C a mid) w2 from ⟨C, ho, hr, hb2⟩)
                clear ho hr hb2
                go_wp2_with fail
                go_meet
                exact Z.out
              · have k3 : decide (i < mid) = false := decide_eq_false hs2
                have Z := Lib.hid (show St3 l w0 A c D (fun C => Ord l C1 C a mid) wc from ⟨C1, Ord.refl (by rw [show mid = i by omega]; exact HF.out.s1), CR1.out, CB1.out⟩)
                go_wp2_with fail
                go_meet
                exact Z.out
            · have k3 : decide (a < i) = false := decide_eq_false hs1
              have Z := Lib.hid (show St3 l w0 A c D (fun C => Ord l C1 C a mid) wc from ⟨C1, Ord.refl (by have := HF.out.s2; rwa [show i = a by omega] at this), CR1.out, CB1.out⟩)
              go_wp2_with fail
              go_meet
              exact Z.out
          case rest =>
            as_aux_lemma =>
            obtain ⟨C2, o2, cr2, cb2⟩ := hcut
            have O2 := Lib.hid o2
            have CR2 := Lib.hid cr2
            have CB2 := Lib.hid cb2
            have cN2 : C2.length = N := o2.len.trans cN1
            have V2 := Lib.hid (show ∀ v ∈ C2, v < N from fun v hv => V1.out v (o2.perm.mem_iff.1 hv))
            have S3 := Lib.hid (srt_sub HF.out.s3 (fun x hx hx2 => o2.out x (by omega)))
            have S4 := Lib.hid (srt_sub HF.out.s4 (fun x hx hx2 => o2.out x (by omega)))
            have L2 := Lib.hid (show LI C2 mid e b from fun x y u v h1 h2 h3 h4 e1 e2 => HF.out.l2 x y u v h1 h2 h3 h4 (by rw [← o2.out x (by omega)]; exact e1) (by rw [← o2.out y (by omega)]; exact e2))
            clear o2 cr2 cb2
            by_cases hs1 : mid < e
            · by_cases hs2 : e < b
              · have RO := HIH.out mid e b C2 _ (by omega) CR2.out CB2.out cN2 hs1 hs2 hb V2.out S3.out S4.out L2.out
                have HRO := Lib.hid RO
                have k1 : (mid : Int) < e := by omega
                have k2 : (e : Int) < b := by omega
                clear RO
                go_wp2_with fail
                refine HRO.out.mono ?_
                rintro _ w2 ⟨rfl, C, ho, hr, hb2⟩
                have Z := Lib.hid (HF.out.ord CL1.out O2.out ho)
                have Z2 := Lib.hid (And.intro hr hb2)
                clear ho hr hb2
                go_wp2_with fail
                go_end0
                exact ⟨rfl, C, Z.out, Z2.out.1, Z2.out.2⟩
              · have k1 : (mid : Int) < e := by omega
                have k2 : ¬ (e : Int) < b := by omega
                have k3 : decide ((e : Int) < b) = false := decide_eq_false k2
                have Z := Lib.hid (HF.out.ord CL1.out O2.out (Ord.refl (by rw [show b = e by omega]; exact S3.out)))
                go_wp2_with fail
                go_end0
                exact ⟨rfl, C2, Z.out, CR2.out, CB2.out⟩
            · have k1 : ¬ (mid : Int) < e := by omega
              have k3 : decide ((mid : Int) < e) = false := decide_eq_false k1
              have Z := Lib.hid (HF.out.ord CL1.out O2.out (Ord.refl (by have := S4.out; rwa [show e = mid by omega] at this)))
              go_wp2_with fail
              go_end0
              exact ⟨rfl, C2, Z.out, CR2.out, CB2.out⟩
end Go.Proofs.Ytchohcfcnghmlaa
