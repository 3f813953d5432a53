/-
  TurnSorts (made by mkTurnU.py).
-/
import Derived.Test.YtchohcfcnghmlaaTurnT
import Derived.Test.YtchohcfcnghmlaaFlat
namespace Go.Proofs.Ytchohcfcnghmlaa
open Go.RowKit Go.ChangeShapes Go.WideShapes Go.ChangeAt
set_option linter.unusedVariables false
set_option linter.unusedSimpArgs false
def RkOk (r : R3) : Prop := True
theorem RkC_len (r : R3) : (RkC r).length = 3 := rfl
theorem RkC_one (r : R3) : ∀ u ∈ RkC r, u.oneCell' = true := by
  intro u hu
  simp [RkC] at hu
  rcases hu with rfl | rfl | rfl <;> rfl
theorem RdT_of_F {w : World} {A : Option Addr} {l : List R3} (h : RdF RkC 3 w A l) : RdT 3 RkC RkOk w A l := by
  refine ⟨?_, fun _ _ => trivial⟩
  rcases Nat.eq_zero_or_pos l.length with h0 | hp
  · exact .inl h0
  · obtain ⟨b, off, x, e, hb, _, _⟩ := RdF.at_ RkC_len (by omega) h hp
    refine .inr ⟨b, off, e, hb, fun i j hi hj => ?_⟩
    obtain ⟨b2, off2, x2, e2, _, hx2, hc2⟩ := RdF.at_ RkC_len (by omega) h hi
    rw [e] at e2
    injection e2 with e2
    injection e2 with e3 e4
    subst e3
    subst e4
    rw [hc2 j hj, hx2]
    rfl
theorem info_rk : (Try.prog.info? 25).map (fun i => (i.zero, i.size, i.bytes)) = some (some (.agg #[.int .u64 0, .int .u64 0, .int .u64 0]), 3, 24) := by kernel_rfl
theorem size_rk (w : World) : (sizeOf 25).run Try.prog w = .ok 3 w := by
  obtain ⟨i, hi⟩ : ∃ i, Try.prog.info? 25 = some i := by
    have h := info_rank
    cases h' : Try.prog.info? 25 with
    | none => rw [h'] at h; cases h
    | some i => exact ⟨i, rfl⟩
  have hsz : i.size = 3 := by have h := info_rank; rw [hi] at h; injection h
  simp [sizeOf, typeInfo, hi, hsz]
theorem own_0U (w : World) {base : Nat} (hb : base ≤ w.heap.size) : OwnV (w.alloc (.cells #[] 25)) base 25 3 (some ⟨w.heap.size, 0, none⟩) 0 0 [] :=
  ⟨rfl, .inr ⟨w.heap.size, 0, #[], rfl, hb, Blk.new w _ _, Nat.le_refl _, by simp, by simp, by simp⟩⟩
theorem list3U {α : Type} : ∀ (l : List α), l.length = 3 → ∃ a b c, l = [a, b, c]
  | [a, b, c], _ => ⟨a, b, c, rfl⟩
theorem rank_cells {H : Type} {enc : TypeId × Value → H} {w : World} {base : Nat} {sp : Nat → Bool} {held : Bool} {cs : List Value} {fuel : Nat} {y : DataW H × List MemPlace}
    (h : DataW.trod enc Try.prog w base sp held fuel 25 cs = some y) : ∃ p : R3, cs = RkC p ∧ RkOk p := by
  obtain ⟨xs, m, _, _, hl, hn, hel⟩ := DataW.trod_array Try.underlying25 h
  have h1 : Try.prog.cellsOf 23 = 1 := by kernel_rfl
  have h2 : Try.prog.cellsOf 25 = 3 := by kernel_rfl
  obtain ⟨u0, u1, u2, rfl⟩ := list3U cs (by rw [hl, h2])
  obtain ⟨y0, y1, y2, rfl⟩ := list3U xs hn
  have g0 : DataW.trod enc Try.prog w base sp held m 23 [u0] = some y0 := by
    have h := hel 0 (by omega)
    rw [h1] at h
    exact h
  have g1 : DataW.trod enc Try.prog w base sp held m 23 [u1] = some y1 := by
    have h := hel 1 (by omega)
    rw [h1] at h
    exact h
  have g2 : DataW.trod enc Try.prog w base sp held m 23 [u2] = some y2 := by
    have h := hel 2 (by omega)
    rw [h1] at h
    exact h
  obtain ⟨a0, rfl, w0⟩ := int_of_trod Try.underlying23 g0
  obtain ⟨a1, rfl, w1⟩ := int_of_trod Try.underlying23 g1
  obtain ⟨a2, rfl, w2⟩ := int_of_trod Try.underlying23 g2
  exact ⟨⟨a0, a1, a2⟩, rfl, trivial⟩
theorem open_ranks {H : Type} {enc : TypeId × Value → H} {w : World} {base : Nat} {sp : Nat → Bool} {held : Bool} {a : Option Addr} {len cap fuel : Nat} {x : DataW H × List MemPlace}
    (h : DataW.trod enc Try.prog w base sp held fuel 29 [.slice a len cap] = some x) :
    ∃ xs, RdT 3 RkC RkOk w a xs ∧ len = xs.length ∧ xs.length ≤ cap ∧ cap ≤ 9223372036854775807 ∧ (a = none → cap = 0) :=
  open_T Try.underlying29 (by kernel_rfl) (by omega) ⟨0, 0, 0⟩ rank_cells h
set_option maxRecDepth 20000 in
set_option maxHeartbeats 6400000 in
theorem sorts_walk (A : Option Addr) (c : Nat) (l : List R3) (w : World) (hr : RdT 3 RkC RkOk w A l) (hlc : l.length ≤ c) (hcm : c ≤ 9223372036854775807) (hA : A = none → c = 0) :
    Calls Try.prog 4 #[.slice A l.length c] w fun r w' => r = .returned (.bool true) ∧ Below w.heap.size w w' := by
  obtain ⟨L, hL⟩ : ∃ L, L = l.take 60 := ⟨_, rfl⟩
  have hLl : L.length = min 60 l.length := by rw [hL, List.length_take]
  have RL := Lib.hid (show RdF RkC 3 w A L from by rw [hL]; exact RdF.of_T RkC_len (by omega) (hr.upto 60))
  have SL := Lib.hid (fun W => slice_uptoL 29 25 3 Try.underlying29 (by kernel_rfl) size_rk A l.length c L.length .i64 (by omega) W)
  have Z1 : (if (l.length : Int) < 60 then (l.length : Int) else 60) = (L.length : Int) := by split <;> omega
  have Z2 : (if (60 : Int) < l.length then (60 : Int) else (l.length : Int)) = (L.length : Int) := by split <;> omega
  have Z3 : min (l.length : Int) 60 = (L.length : Int) := by omega
  have Z4 : min (60 : Int) (l.length : Int) = (L.length : Int) := by omega
  have h60 : L.length ≤ 60 := by omega
  have HZ := Lib.hid (And.intro Z1 (And.intro Z2 (And.intro Z3 Z4)))
  clear hr hL hLl Z1 Z2 Z3 Z4 hA
  go_enter Try.func4, Try.ntmps4
  go_wp2_with fail
  refine (awake19_any _).mono ?_
  rintro e w1 ⟨rfl, b1⟩
  have B1 := Lib.hid b1
  have z1 := b1.size
  clear b1
  go_upto_region 3 with (fail)
  obtain ⟨Z1, Z2, Z3, Z4⟩ := HZ.out
  have sl := SL.out (w1.alloc (.cells #[] 25))
  go_upto_region 4 with (at_builtin; go_must (refine wpList_appV2 rfl (.tmp 9) (.tmp 14) 29 25 3 24 (.agg #[.int .u64 0, .int .u64 0, .int .u64 0]) rfl Try.underlying29 info_rk rfl (by omega) w.heap.size (n := 0) (m := L.length) (xs := []) (news := FlV RkC L) (d := c) rfl rfl (own_0U _ z1) ((Reads.below RL.out (B1.out.alloc z1 _)).more (by simp; omega)) (FlV_oneCell RkC RkC_one L) (by unfold maxLen; omega) (by omega) (by simp; omega) ?_); intro A1 c1 w2 hown hg hb hrow)
  have O1 := Lib.hid (show OwnV w2 w.heap.size 25 3 A1 c1 L.length (FlV RkC L) by simpa using hown)
  have B2 := Lib.hid ((B1.out.alloc z1 _).trans hb)
  have z2 := B2.out.size
  clear hown hg hb hrow sl Z1 Z2 Z3 Z4 RL SL HZ B1
  go_upto_region 5 with (at_builtin; go_must (refine wpList_appV2 rfl (.tmp 16) (.tmp 17) 29 25 3 24 (.agg #[.int .u64 0, .int .u64 0, .int .u64 0]) rfl Try.underlying29 info_rk rfl (by omega) w2.heap.size (n := 0) (m := L.length) (xs := []) (news := FlV RkC L) (d := c1) rfl (by simp [Act.eval]) (own_0U _ (Nat.le_refl _)) ((OwnV.reads O1.out).alloc (Nat.le_refl _) _ |>.more (by simp)) (FlV_oneCell RkC RkC_one L) (by unfold maxLen; omega) (by omega) (by simp) ?_); intro A2 c2 w3 hown hg hb hrow)
  have bb3 : Below w2.heap.size w2 w3 := ((Below.refl _ _).alloc (Nat.le_refl _) _).trans hb
  have O2 := Lib.hid (show OwnV w3 w2.heap.size 25 3 A2 c2 L.length (FlV RkC L) by simpa using hown)
  have T2 := Lib.hid (RdT_of_F (show RdF RkC 3 w3 A2 L from OwnV.reads O2.out))
  have T1 := Lib.hid (RdT_of_F (RdF.below (show RdF RkC 3 w2 A1 L from OwnV.reads O1.out) bb3))
  have B3 := Lib.hid (B2.out.trans (bb3.mono z2))
  have z3' := B3.out.size
  have SO := Lib.hid (Sort_any A2 c2 L RkOk w3 T2.out (by omega))
  clear hown hg hb hrow bb3 O1 O2 B2 z1
  go_wp2_with fail
  refine SO.out.mono ?_
  rintro _ w4 ⟨A3, c3, D, rfl, dl, dp, db, dr, b4⟩
  have DR := Lib.hid dr
  have B4 := Lib.hid (B3.out.trans (b4.mono z3'))
  have T1' := Lib.hid (T1.out.below b4)
  have T2' := Lib.hid (T2.out.below b4)
  have RS := Lib.hid (refSort_any A1 c1 L RkOk w4 T1'.out (by omega) D dp db.1 dl)
  have DL := Lib.hid dl
  clear SO dr b4 T1 T2 B3 dp db dl
  go_wp2_with fail
  refine RS.out.mono ?_
  rintro _ w5 ⟨A4, c4, rfl, dr2, b5⟩
  have DR2 := Lib.hid dr2
  have DR1 := Lib.hid (DR.out.below b5)
  have B5 := Lib.hid (B4.out.trans (b5.mono B4.out.size))
  have T1 := Lib.hid (T1'.out.below b5)
  have T2 := Lib.hid (T2'.out.below b5)
  clear RS dr2 b5 T1' T2' B4 DR
  obtain ⟨P1, hP1⟩ : ∃ P1 : Nat → World → Prop, P1 = fun i wr => i ≤ L.length ∧ Below w5.heap.size w5 wr := ⟨_, rfl⟩
  have E1 := Lib.hid hP1
  clear hP1
  go_wp2_with fail
  go_loopw [30, 6] (fun p _ wr => Rk P1 p wr) (fun p _ _ => L.length - (intOf p).toNat)
  case atStart => exact Rk.mk 0 rfl (by rw [E1.out]; exact ⟨by omega, Below.refl _ _⟩)
  case round =>
    obtain ⟨i, rfl, hq⟩ := hrel
    rw [E1.out] at hq
    obtain ⟨hi, hbw⟩ := hq
    have BW := Lib.hid hbw
    clear hbw
    by_cases hlt : i < L.length
    · have hli : (i : Int) < L.length := by omega
      obtain ⟨g3, x, eA3, _, z3, hx, d3, _, _⟩ := (DR1.out.below BW.out).at_ (i := i) (by rw [DL.out]; exact hlt)
      obtain ⟨g4, x', eA4, _, z4, hx', d4, _, _⟩ := (DR2.out.below BW.out).at_ (i := i) (by rw [DL.out]; exact hlt)
      obtain rfl : x = x' := by rw [hx] at hx'; injection hx'
      obtain ⟨b1, off1, r, eA1, hb1, hr1, _, hc1⟩ := (T1.out.below BW.out).at_ hlt
      obtain ⟨b2, off2, r', eA2, hb2, hr2, _, hc2⟩ := (T2.out.below BW.out).at_ hlt
      obtain rfl : r = r' := by rw [hr1] at hr2; injection hr2
      subst eA1
      subst eA2
      subst eA3
      subst eA4
      have RX1 := Lib.hid (fun w' (hS : Below wr.heap.size wr w') => show w'.rangeAt b1 (off1 + i * 3) (RkC r) from fun t v hv => by
        have ht : t < 3 := by
          rcases Nat.lt_or_ge t 3 with h | h
          · exact h
          · rw [List.getElem?_eq_none (by simp [RkC]; omega)] at hv; cases hv
        rw [hS.cell (p := ⟨b1, off1 + i * 3 + t, none⟩) hb1, hc1 t ht, hv])
      have RX2 := Lib.hid (fun w' (hS : Below wr.heap.size wr w') => show w'.rangeAt b2 (off2 + i * 3) (RkC r) from fun t v hv => by
        have ht : t < 3 := by
          rcases Nat.lt_or_ge t 3 with h | h
          · exact h
          · rw [List.getElem?_eq_none (by simp [RkC]; omega)] at hv; cases hv
        rw [hS.cell (p := ⟨b2, off2 + i * 3 + t, none⟩) hb2, hc2 t ht, hv])
      obtain ⟨x1, x2, x3⟩ := r
      have E3 := Lib.hid (fun W => eq3 x1 x2 x3 x1 x2 x3 W)
      simp only [decide_true, Bool.and_self] at E3
      unfold RkC at RX1 RX2
      simp only at RX1 RX2
      clear hx hx' hr1 hr2 hc1 hc2
      go_upto_region 11 with (fail)
      refine wp_region_held_drew (S := fun w' => Below wr.heap.size wr w') (by kernel_rfl) (below_dT (Below.refl _ _) 1) (fun s0 => ?_)
      refine wpAnyH_take (i := 0) (oi := ⟨_, _, _, _, _, _⟩) (v := .slice (some ⟨g3, 0, none⟩) L.length c3) rfl (by kernel_rfl) (by kernel_rfl) (by kernel_rfl) (fun _ _ _ h => h) (Or.inl ⟨by rfl, fun w' hS => by go_simp⟩) s0 ?_
      simp only [List.getElem_toArray, List.getElem_cons_succ, List.getElem_cons_zero, Act.put, List.setIfInBounds_toArray, List.set_cons_zero, List.set_cons_succ]
      refine wpAnyH_take (i := 1) (oi := ⟨_, _, _, _, _, _⟩) (v := .int .i64 (i : Int)) rfl (by kernel_rfl) (by kernel_rfl) (by kernel_rfl) (fun _ _ _ h => h) (Or.inl ⟨by rfl, fun w' hS => by go_simp⟩) s0 ?_
      simp only [List.getElem_toArray, List.getElem_cons_succ, List.getElem_cons_zero, Act.put, List.setIfInBounds_toArray, List.set_cons_zero, List.set_cons_succ]
      refine wpAnyH_take (i := 2) (oi := ⟨_, _, _, _, _, _⟩) (v := .pointer (some ⟨g3, i, none⟩)) rfl (by kernel_rfl) (by kernel_rfl) (by kernel_rfl) (fun _ _ _ h => h) (Or.inl ⟨by rfl, fun w' hS => by go_simp⟩) s0 ?_
      simp only [List.getElem_toArray, List.getElem_cons_succ, List.getElem_cons_zero, Act.put, List.setIfInBounds_toArray, List.set_cons_zero, List.set_cons_succ]
      refine wpAnyH_take (i := 3) (oi := ⟨_, _, _, _, _, _⟩) (v := .int .i64 (x : Int)) rfl (by kernel_rfl) (by kernel_rfl) (by kernel_rfl) (fun _ _ _ h => h) (Or.inl ⟨by rfl, fun w' hS => by have cc := (hS.cell z3).trans d3; have zz := Nat.lt_of_lt_of_le z3 hS.size; go_simp⟩) s0 ?_
      simp only [List.getElem_toArray, List.getElem_cons_succ, List.getElem_cons_zero, Act.put, List.setIfInBounds_toArray, List.set_cons_zero, List.set_cons_succ]
      refine wpAnyH_take (i := 4) (oi := ⟨_, _, _, _, _, _⟩) (v := .slice (some ⟨g4, 0, none⟩) L.length c4) rfl (by kernel_rfl) (by kernel_rfl) (by kernel_rfl) (fun _ _ _ h => h) (Or.inl ⟨by rfl, fun w' hS => by go_simp⟩) s0 ?_
      simp only [List.getElem_toArray, List.getElem_cons_succ, List.getElem_cons_zero, Act.put, List.setIfInBounds_toArray, List.set_cons_zero, List.set_cons_succ]
      refine wpAnyH_take (i := 5) (oi := ⟨_, _, _, _, _, _⟩) (v := .int .i64 (i : Int)) rfl (by kernel_rfl) (by kernel_rfl) (by kernel_rfl) (fun _ _ _ h => h) (Or.inl ⟨by rfl, fun w' hS => by go_simp⟩) s0 ?_
      simp only [List.getElem_toArray, List.getElem_cons_succ, List.getElem_cons_zero, Act.put, List.setIfInBounds_toArray, List.set_cons_zero, List.set_cons_succ]
      refine wpAnyH_take (i := 6) (oi := ⟨_, _, _, _, _, _⟩) (v := .pointer (some ⟨g4, i, none⟩)) rfl (by kernel_rfl) (by kernel_rfl) (by kernel_rfl) (fun _ _ _ h => h) (Or.inl ⟨by rfl, fun w' hS => by go_simp⟩) s0 ?_
      simp only [List.getElem_toArray, List.getElem_cons_succ, List.getElem_cons_zero, Act.put, List.setIfInBounds_toArray, List.set_cons_zero, List.set_cons_succ]
      refine wpAnyH_take (i := 7) (oi := ⟨_, _, _, _, _, _⟩) (v := .int .i64 (x : Int)) rfl (by kernel_rfl) (by kernel_rfl) (by kernel_rfl) (fun _ _ _ h => h) (Or.inl ⟨by rfl, fun w' hS => by have cc := (hS.cell z4).trans d4; have zz := Nat.lt_of_lt_of_le z4 hS.size; go_simp⟩) s0 ?_
      simp only [List.getElem_toArray, List.getElem_cons_succ, List.getElem_cons_zero, Act.put, List.setIfInBounds_toArray, List.set_cons_zero, List.set_cons_succ]
      refine wpAnyH_take (i := 8) (oi := ⟨_, _, _, _, _, _⟩) (v := .bool false) rfl (by kernel_rfl) (by kernel_rfl) (by kernel_rfl) (fun _ _ _ h => h) (Or.inl ⟨by rfl, fun w' hS => by go_simp⟩) s0 ?_
      simp only [List.getElem_toArray, List.getElem_cons_succ, List.getElem_cons_zero, Act.put, List.setIfInBounds_toArray, List.set_cons_zero, List.set_cons_succ]
      refine wpAnyH_take (i := 9) (oi := ⟨_, _, _, _, _, _⟩) (v := .bool false) rfl (by kernel_rfl) (by kernel_rfl) (by kernel_rfl) (fun _ _ _ h => h) (Or.inl ⟨by rfl, fun w' hS => by go_simp⟩) s0 ?_
      simp only [List.getElem_toArray, List.getElem_cons_succ, List.getElem_cons_zero, Act.put, List.setIfInBounds_toArray, List.set_cons_zero, List.set_cons_succ]
      refine wpAnyH_take (i := 10) (oi := ⟨_, _, _, _, _, _⟩) (v := .slice (some ⟨b2, off2, none⟩) L.length c2) rfl (by kernel_rfl) (by kernel_rfl) (by kernel_rfl) (fun _ _ _ h => h) (Or.inl ⟨by rfl, fun w' hS => by go_simp⟩) s0 ?_
      simp only [List.getElem_toArray, List.getElem_cons_succ, List.getElem_cons_zero, Act.put, List.setIfInBounds_toArray, List.set_cons_zero, List.set_cons_succ]
      refine wpAnyH_take (i := 11) (oi := ⟨_, _, _, _, _, _⟩) (v := .int .i64 (i : Int)) rfl (by kernel_rfl) (by kernel_rfl) (by kernel_rfl) (fun _ _ _ h => h) (Or.inl ⟨by rfl, fun w' hS => by go_simp⟩) s0 ?_
      simp only [List.getElem_toArray, List.getElem_cons_succ, List.getElem_cons_zero, Act.put, List.setIfInBounds_toArray, List.set_cons_zero, List.set_cons_succ]
      refine wpAnyH_take (i := 12) (oi := ⟨_, _, _, _, _, _⟩) (v := .pointer (some ⟨b2, off2 + i * 3, none⟩)) rfl (by kernel_rfl) (by kernel_rfl) (by kernel_rfl) (fun _ _ _ h => h) (Or.inl ⟨by rfl, fun w' hS => by go_simp⟩) s0 ?_
      simp only [List.getElem_toArray, List.getElem_cons_succ, List.getElem_cons_zero, Act.put, List.setIfInBounds_toArray, List.set_cons_zero, List.set_cons_succ]
      refine wpAnyH_take (i := 13) (oi := ⟨_, _, _, _, _, _⟩) rfl (by kernel_rfl) (by kernel_rfl) (by kernel_rfl) (fun _ _ _ h => h) (yieldsIf_load_mid (by rfl) 25 (.tmp 45) rfl b2 (off2 + i * 3) rfl [.int .u64 x1, .int .u64 x2, .int .u64 x3] _ (fun w' hS => RX2.out w' hS) Try.underlying25 rfl info_rank) s0 ?_
      simp only [List.getElem_toArray, List.getElem_cons_succ, List.getElem_cons_zero, Act.put, List.setIfInBounds_toArray, List.set_cons_zero, List.set_cons_succ]
      refine wpAnyH_take (i := 14) (oi := ⟨_, _, _, _, _, _⟩) (v := .slice (some ⟨b1, off1, none⟩) L.length c1) rfl (by kernel_rfl) (by kernel_rfl) (by kernel_rfl) (fun _ _ _ h => h) (Or.inl ⟨by rfl, fun w' hS => by go_simp⟩) s0 ?_
      simp only [List.getElem_toArray, List.getElem_cons_succ, List.getElem_cons_zero, Act.put, List.setIfInBounds_toArray, List.set_cons_zero, List.set_cons_succ]
      refine wpAnyH_take (i := 15) (oi := ⟨_, _, _, _, _, _⟩) (v := .int .i64 (i : Int)) rfl (by kernel_rfl) (by kernel_rfl) (by kernel_rfl) (fun _ _ _ h => h) (Or.inl ⟨by rfl, fun w' hS => by go_simp⟩) s0 ?_
      simp only [List.getElem_toArray, List.getElem_cons_succ, List.getElem_cons_zero, Act.put, List.setIfInBounds_toArray, List.set_cons_zero, List.set_cons_succ]
      refine wpAnyH_take (i := 16) (oi := ⟨_, _, _, _, _, _⟩) (v := .pointer (some ⟨b1, off1 + i * 3, none⟩)) rfl (by kernel_rfl) (by kernel_rfl) (by kernel_rfl) (fun _ _ _ h => h) (Or.inl ⟨by rfl, fun w' hS => by go_simp⟩) s0 ?_
      simp only [List.getElem_toArray, List.getElem_cons_succ, List.getElem_cons_zero, Act.put, List.setIfInBounds_toArray, List.set_cons_zero, List.set_cons_succ]
      refine wpAnyH_take (i := 17) (oi := ⟨_, _, _, _, _, _⟩) rfl (by kernel_rfl) (by kernel_rfl) (by kernel_rfl) (fun _ _ _ h => h) (yieldsIf_load_mid (by rfl) 25 (.tmp 49) rfl b1 (off1 + i * 3) rfl [.int .u64 x1, .int .u64 x2, .int .u64 x3] _ (fun w' hS => RX1.out w' hS) Try.underlying25 rfl info_rank) s0 ?_
      simp only [List.getElem_toArray, List.getElem_cons_succ, List.getElem_cons_zero, Act.put, List.setIfInBounds_toArray, List.set_cons_zero, List.set_cons_succ]
      refine wpAnyH_take (i := 18) (oi := ⟨_, _, _, _, _, _⟩) (v := .bool false) rfl (by kernel_rfl) (by kernel_rfl) (by kernel_rfl) (fun _ _ _ h => h) (Or.inl ⟨by rfl, fun w' hS => by have e3 := E3.out w'; go_simp⟩) s0 ?_
      simp only [List.getElem_toArray, List.getElem_cons_succ, List.getElem_cons_zero, Act.put, List.setIfInBounds_toArray, List.set_cons_zero, List.set_cons_succ]
      refine wpAnyH_take (i := 19) (oi := ⟨_, _, _, _, _, _⟩) (v := .bool false) rfl (by kernel_rfl) (by kernel_rfl) (by kernel_rfl) (fun _ _ _ h => h) (Or.inl ⟨by rfl, fun w' hS => by go_simp⟩) s0 ?_
      simp only [List.getElem_toArray, List.getElem_cons_succ, List.getElem_cons_zero, Act.put, List.setIfInBounds_toArray, List.set_cons_zero, List.set_cons_succ]
      refine wpAnyH_done (by kernel_rfl) ?_ _
      have BZ := Lib.hid s0
      clear s0
      go_wp2_with fail
      go_roundw
      case rel => exact Rk.mk (i + 1) (by go_num) (by rw [E1.out]; exact ⟨by omega, BW.out.trans (BZ.out.mono BW.out.size)⟩)
      case measure => simp [intOf]; omega
    · have hd : decide ((i : Int) < L.length) = false := decide_eq_false (by omega)
      go_wp2_with fail
      go_ret
      exact ⟨rfl, B5.out.trans (BW.out.mono B5.out.size)⟩
end Go.Proofs.Ytchohcfcnghmlaa
