/-
  turn: slices.SortStableFunc at places; the comparison's closure.
-/
import Derived.Test.YtchohcfcnghmlaaTurnP
import Derived.Test.YtchohcfcnghmlaaTurnE
namespace Go.Proofs.Ytchohcfcnghmlaa
open Go.RowKit
set_option linter.unusedVariables false
set_option linter.unusedSimpArgs false
theorem sortStable_any (l : List R3) (f : Nat) (cb : Array Value) (w0 : World) (A : Option Addr) (c N : Nat) (D : List Nat) (W : World) (cm : Cmp l N w0 f cb) (h : RowN W w0.heap.size A c D) (hw : Below w0.heap.size w0 W) (hN : D.length = N) (hN2 : N ≤ 1000) (hlt : ∀ v ∈ D, v < N) (hid : ∀ x, x < N → D[x]? = some x) :
    Calls Try.prog 18 #[.slice A N c, .func (.func f) #[] cb] W fun r w' => r = .returned (.tuple #[]) ∧ ∃ D' : List Nat, D'.length = N ∧ D'.Perm D ∧ Bk l D' 0 N ∧ RowN w' w0.heap.size A c D' ∧ Below w0.heap.size w0 w' := by
  have ST := Lib.hid (stable_any l f cb w0 A c N D W cm h hw hN hN2 hlt hid)
  clear cm h hw hlt hid
  go_enter Try.func18, Try.ntmps18
  go_wp2_with fail
  refine ST.out.mono ?_
  rintro _ w2 ⟨rfl, q⟩
  have Q := Lib.hid q
  clear q
  go_wp2_with fail
  first | go_end0 | refine bodyPost_ret (results_none rfl _ _ _) rfl ?_
  exact ⟨rfl, Q.out⟩
def RkC (r : R3) : List Value := [.int .u64 r.x, .int .u64 r.y, .int .u64 r.z]
theorem rk_at {l : List R3} {i : Nat} {r : R3} (h : l[i]? = some r) : rk l i = r := by simp [rk, List.getD, h]
set_option maxHeartbeats 1600000 in
theorem closure_any (l : List R3) (Bl : Nat) (A : Option Addr) (c : Nat) (ok : R3 → Prop) (W : World) (i j : Nat) (hB : Blk W Bl 29 #[.slice A l.length c]) (hr : RdT 3 RkC ok W A l) (hl : l.length ≤ 1000) (hi : i < l.length) (hj : j < l.length) :
    Calls Try.prog 19 #[.int .i64 (i : Int), .int .i64 (j : Int), .pointer (some ⟨Bl, 0, none⟩)] W fun e w' => e = .returned (.int .i64 (cmp3 (rk l i) (rk l j))) ∧ Below W.heap.size W w' := by
  obtain ⟨b, off, x, eA, hb, hx, _, hcx⟩ := hr.at_ hi
  obtain ⟨b2, off2, y, eA2, _, hy, _, hcy⟩ := hr.at_ hj
  subst eA
  injection eA2 with eA2
  injection eA2 with eA2 eA3
  subst eA2
  subst eA3
  rw [rk_at hx, rk_at hy]
  have CA := Lib.hid (fun W' => compare_any x y W')
  have RX := Lib.hid (fun w' (hS : Below W.heap.size W w') => show w'.rangeAt b (off + i * 3) (RkC x) from fun k v hv => by
    have hk : k < 3 := by
      rcases Nat.lt_or_ge k 3 with h | h
      · exact h
      · rw [List.getElem?_eq_none (by simp [RkC]; omega)] at hv; cases hv
    rw [hS.cell (p := ⟨b, off + i * 3 + k, none⟩) hb, hcx k hk, hv])
  have RY := Lib.hid (fun w' (hS : Below W.heap.size W w') => show w'.rangeAt b (off + j * 3) (RkC y) from fun k v hv => by
    have hk : k < 3 := by
      rcases Nat.lt_or_ge k 3 with h | h
      · exact h
      · rw [List.getElem?_eq_none (by simp [RkC]; omega)] at hv; cases hv
    rw [hS.cell (p := ⟨b, off + j * 3 + k, none⟩) hb, hcy k hk, hv])
  have c0 := hB.cell 0
  simp only [List.getElem?_toArray, List.getElem?_cons_zero] at c0
  have zB := hB.lt
  have i1 : (i : Int) < (l.length : Int) := by omega
  have j1 : (j : Int) < (l.length : Int) := by omega
  obtain ⟨x1, x2, x3⟩ := x
  obtain ⟨y1, y2, y3⟩ := y
  unfold R3.val RV at CA
  unfold RkC at RX RY
  simp only at CA RX RY
  clear hr hcx hcy hx hy hB
  go_enter Try.func19, Try.ntmps19
  go_upto_region 1 with (fail)
  obtain ⟨u0, hu0⟩ : ∃ u, u = W.drew := ⟨_, rfl⟩
  refine wp_region_held_drew (S := fun w' => Below W.heap.size W w') (by kernel_rfl) (below_dT (Below.refl _ _) 1) (fun s0 => ?_)
  refine wpAnyH_take (i := 0) (oi := ⟨_, _, _, _, _, _⟩) (v := .slice (some ⟨b, off, none⟩) l.length c) rfl (by kernel_rfl) (by kernel_rfl) (by kernel_rfl) (fun _ _ _ h => h) (Or.inl ⟨by rfl, fun w' hS => by have cc := (hS.cell (p := ⟨Bl, 0, none⟩) zB).trans c0; have zz := Nat.lt_of_lt_of_le zB hS.size; go_simp⟩) s0 ?_
  simp only [Act.put, List.setIfInBounds_toArray, List.set_cons_zero, List.set_cons_succ]
  refine wpAnyH_take (i := 1) (oi := ⟨_, _, _, _, _, _⟩) (v := .int .i64 (i : Int)) rfl (by kernel_rfl) (by kernel_rfl) (by kernel_rfl) (fun _ _ _ h => h) (Or.inl ⟨by rfl, fun w' hS => by go_simp⟩) s0 ?_
  simp only [Act.put, List.setIfInBounds_toArray, List.set_cons_zero, List.set_cons_succ]
  refine wpAnyH_take (i := 2) (oi := ⟨_, _, _, _, _, _⟩) (v := .pointer (some ⟨b, off + i * 3, none⟩)) rfl (by kernel_rfl) (by kernel_rfl) (by kernel_rfl) (fun _ _ _ h => h) (Or.inl ⟨by rfl, fun w' hS => by go_simp⟩) s0 ?_
  simp only [Act.put, List.setIfInBounds_toArray, List.set_cons_zero, List.set_cons_succ]
  refine wpAnyH_take (i := 3) (oi := ⟨_, _, _, _, _, _⟩) rfl (by kernel_rfl) (by kernel_rfl) (by kernel_rfl) (fun _ _ _ h => h) (yieldsIf_load_mid (by rfl) 25 (.tmp 8) rfl b (off + i * 3) rfl [.int .u64 x1, .int .u64 x2, .int .u64 x3] _ (fun w' hS => RX.out w' hS) Try.underlying25 rfl info_rank) s0 ?_
  simp only [Act.put, List.setIfInBounds_toArray, List.set_cons_zero, List.set_cons_succ]
  refine wpAnyH_take (i := 4) (oi := ⟨_, _, _, _, _, _⟩) (v := .slice (some ⟨b, off, none⟩) l.length c) rfl (by kernel_rfl) (by kernel_rfl) (by kernel_rfl) (fun _ _ _ h => h) (Or.inl ⟨by rfl, fun w' hS => by have cc := (hS.cell (p := ⟨Bl, 0, none⟩) zB).trans c0; have zz := Nat.lt_of_lt_of_le zB hS.size; go_simp⟩) s0 ?_
  simp only [Act.put, List.setIfInBounds_toArray, List.set_cons_zero, List.set_cons_succ]
  refine wpAnyH_take (i := 5) (oi := ⟨_, _, _, _, _, _⟩) (v := .int .i64 (j : Int)) rfl (by kernel_rfl) (by kernel_rfl) (by kernel_rfl) (fun _ _ _ h => h) (Or.inl ⟨by rfl, fun w' hS => by go_simp⟩) s0 ?_
  simp only [Act.put, List.setIfInBounds_toArray, List.set_cons_zero, List.set_cons_succ]
  refine wpAnyH_take (i := 6) (oi := ⟨_, _, _, _, _, _⟩) (v := .pointer (some ⟨b, off + j * 3, none⟩)) rfl (by kernel_rfl) (by kernel_rfl) (by kernel_rfl) (fun _ _ _ h => h) (Or.inl ⟨by rfl, fun w' hS => by go_simp⟩) s0 ?_
  simp only [Act.put, List.setIfInBounds_toArray, List.set_cons_zero, List.set_cons_succ]
  refine wpAnyH_take (i := 7) (oi := ⟨_, _, _, _, _, _⟩) rfl (by kernel_rfl) (by kernel_rfl) (by kernel_rfl) (fun _ _ _ h => h) (yieldsIf_load_mid (by rfl) 25 (.tmp 12) rfl b (off + j * 3) rfl [.int .u64 y1, .int .u64 y2, .int .u64 y3] _ (fun w' hS => RY.out w' hS) Try.underlying25 rfl info_rank) s0 ?_
  simp only [Act.put, List.setIfInBounds_toArray, List.set_cons_zero, List.set_cons_succ]
  refine wpAnyH_ready (rs := [8]) (by kernel_rfl) (by simp) ?_
  refine AllReadyH.cons rfl (fun K hK => ?_) AllReadyH.nil
  go_simp
  refine (CA.out _).mono ?_
  rintro e v1 ⟨rfl, q1⟩
  have p1 := s0.trans (q1.mono s0.size)
  refine hK.out _ _ p1 (fun _ => ?_)
  clear hK K s0 q1
  refine wpAnyH_take (i := 9) (oi := ⟨_, _, _, _, _, _⟩) (v := .int .i64 (cmp3 ⟨x1, x2, x3⟩ ⟨y1, y2, y3⟩)) rfl (by kernel_rfl) (by kernel_rfl) (by kernel_rfl) (fun _ _ _ h => h) (Or.inl ⟨by rfl, fun w' hS => by go_simp⟩) p1 ?_
  simp only [Act.put, List.setIfInBounds_toArray, List.set_cons_zero, List.set_cons_succ]
  refine wpAnyH_done (by kernel_rfl) ?_ _
  go_wp2_with fail
  go_ret
  exact ⟨rfl, p1⟩
end Go.Proofs.Ytchohcfcnghmlaa
