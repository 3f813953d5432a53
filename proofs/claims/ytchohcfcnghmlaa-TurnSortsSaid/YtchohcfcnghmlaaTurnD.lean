/-
  TurnRanks (made by mkTurnD.py).
-/
import Derived.Test.YtchohcfcnghmlaaTurnC
import Derived.Test.YtchohcfcnghmlaaOpenArr
import Derived.Deep.MidRow
import Derived.Deep.DeepCutAuto
import Derived.Deep.CutBlock
namespace Go.Proofs.Ytchohcfcnghmlaa
open Go.RowKit
set_option linter.unusedVariables false
set_option linter.unusedSimpArgs false
theorem range_blkT {w : World} {g : Nat} {t : TypeId} {cs : Array Value} (h : Blk w g t cs) : w.rangeAt g 0 cs.toList := fun j v hv => by
  rw [Nat.zero_add, h.cell j]
  simpa using hv
/-- The two boxes of the arguments. -/
structure TBx (w W : World) (ga gb : Nat) (a b : Array Value) : Prop where
  a : Blk W ga 22 a
  b : Blk W gb 22 b
  bel : Below w.heap.size w W
  ea : ga = w.heap.size
  eb : gb = w.heap.size + 1
theorem TBx.sz {w W : World} {ga gb : Nat} {a b : Array Value} (h : TBx w W ga gb a b) : w.heap.size + 1 < W.heap.size := by
  have := h.b.lt
  have := h.eb
  omega
theorem TBx.below {w W W' : World} {ga gb : Nat} {a b : Array Value} (h : TBx w W ga gb a b) (hb : Below W.heap.size W W') : TBx w W' ga gb a b :=
  ⟨h.a.below hb h.a.lt, h.b.below hb h.b.lt, h.bel.trans (hb.mono h.bel.size), h.ea, h.eb⟩
theorem TBx.far {w W : World} {ga gb g : Nat} {a b cs : Array Value} (h : TBx w W ga gb a b) (hg : w.heap.size + 1 < g) : TBx w (W.setRow g cs) ga gb a b :=
  ⟨(setRow_other W g ga cs (by have := h.ea; omega)).trans h.a, (setRow_other W g gb cs (by have := h.eb; omega)).trans h.b, below_gsT h.bel grow_rowT (by omega) h.bel.size, h.ea, h.eb⟩
/-- And the two ranks. -/
structure T4 (w W : World) (ga gb g9 g10 : Nat) (a b x y : Array Value) : Prop where
  a : Blk W ga 22 a
  b : Blk W gb 22 b
  p : Blk W g9 25 x
  q : Blk W g10 25 y
  bel : Below w.heap.size w W
theorem T4.below {w W W' : World} {ga gb g9 g10 : Nat} {a b x y : Array Value} (h : T4 w W ga gb g9 g10 a b x y) (hb : Below W.heap.size W W') : T4 w W' ga gb g9 g10 a b x y :=
  ⟨h.a.below hb h.a.lt, h.b.below hb h.b.lt, h.p.below hb h.p.lt, h.q.below hb h.q.lt, h.bel.trans (hb.mono h.bel.size)⟩
theorem T4.drew {w W : World} {ga gb g9 g10 : Nat} {a b x y : Array Value} (h : T4 w W ga gb g9 g10 a b x y) : T4 w W.drew ga gb g9 g10 a b x y := ⟨h.a.drew, h.b.drew, h.p.drew, h.q.drew, below_dT h.bel 1⟩
theorem less3_tri (a b : R3) : (less3 a b = true ∧ less3 b a = false) ∨ (less3 a b = false ∧ less3 b a = true) ∨ (less3 a b = false ∧ less3 b a = false ∧ a = b) := by
  obtain ⟨x1, x2, x3⟩ := a
  obtain ⟨y1, y2, y3⟩ := b
  unfold less3
  simp only [R3.mk.injEq]
  by_cases h1 : x1 = y1
  · by_cases h2 : x2 = y2
    · by_cases h3 : x3 = y3
      · subst h1 h2 h3; simp
      · subst h1 h2; simp; omega
    · subst h1; simp [h2, Ne.symm h2]; omega
  · simp [h1, Ne.symm h1]; omega
set_option maxRecDepth 100000 in
set_option maxHeartbeats 3200000 in
theorem ranks_walk0 (a0 a1 a2 b0 b1 b2 g h x1 x2 x3 y1 y2 y3 : Int) (l1 l3 : Bool) (w : World)
    (RX : Hid (∀ W, Calls Try.prog 8 #[.int .u8 a0, .int .u8 a1, .int .u8 a2, .int .u64 g] W fun r w' => r = .returned (.agg #[.int .u64 x1, .int .u64 x2, .int .u64 x3]) ∧ Below W.heap.size W w'))
    (RR : Hid (∀ W, Calls Try.prog 9 #[.int .u8 a0, .int .u8 a1, .int .u8 a2, .int .u64 g] W fun r w' => r = .returned (.agg #[.int .u64 x1, .int .u64 x2, .int .u64 x3]) ∧ Below W.heap.size W w'))
    (RY : Hid (∀ W, Calls Try.prog 8 #[.int .u8 b0, .int .u8 b1, .int .u8 b2, .int .u64 h] W fun r w' => r = .returned (.agg #[.int .u64 y1, .int .u64 y2, .int .u64 y3]) ∧ Below W.heap.size W w'))
    (L1 : Hid (∀ W, Calls Try.prog 10 #[.agg #[.int .u64 x1, .int .u64 x2, .int .u64 x3], .agg #[.int .u64 y1, .int .u64 y2, .int .u64 y3]] W fun r w' => r = .returned (.bool l1) ∧ Below W.heap.size W w'))
    (L2 : Hid (∀ W, Calls Try.prog 11 #[.agg #[.int .u64 x1, .int .u64 x2, .int .u64 x3], .agg #[.int .u64 y1, .int .u64 y2, .int .u64 y3]] W fun r w' => r = .returned (.bool l1) ∧ Below W.heap.size W w'))
    (L3 : Hid (∀ W, Calls Try.prog 10 #[.agg #[.int .u64 y1, .int .u64 y2, .int .u64 y3], .agg #[.int .u64 x1, .int .u64 x2, .int .u64 x3]] W fun r w' => r = .returned (.bool l3) ∧ Below W.heap.size W w'))
    (HT : (l1 = true ∧ l3 = false) ∨ (l1 = false ∧ l3 = true) ∨ (l1 = false ∧ l3 = false ∧ x1 = y1 ∧ x2 = y2 ∧ x3 = y3)) :
    Calls Try.prog 3 #[.agg #[.int .u8 a0, .int .u8 a1, .int .u8 a2], .agg #[.int .u8 b0, .int .u8 b1, .int .u8 b2], .int .u64 g, .int .u64 h] w fun r w' => r = .returned (.bool true) ∧ Below w.heap.size w w' := by
  have E3 := Lib.hid (fun W => eq3 x1 x2 x3 x1 x2 x3 W)
  simp only [decide_true, Bool.and_self] at E3
  obtain ⟨W, hW⟩ : ∃ W, W = (w.alloc (.cells #[.int .u8 a0, .int .u8 a1, .int .u8 a2] 22)).alloc (.cells #[.int .u8 b0, .int .u8 b1, .int .u8 b2] 22) := ⟨_, rfl⟩
  obtain ⟨ga, hga⟩ : ∃ g, g = w.heap.size := ⟨_, rfl⟩
  obtain ⟨gb, hgb⟩ : ∃ g, g = w.heap.size + 1 := ⟨_, rfl⟩
  have X0 : TBx w W ga gb #[.int .u8 a0, .int .u8 a1, .int .u8 a2] #[.int .u8 b0, .int .u8 b1, .int .u8 b2] := by
    refine ⟨?_, ?_, ?_, hga, hgb⟩
    · rw [hW, hga]; exact (Blk.new _ _ _).alloc _
    · rw [hW, hgb]
      have := Blk.new (w.alloc (.cells #[.int .u8 a0, .int .u8 a1, .int .u8 a2] 22)) 22 #[.int .u8 b0, .int .u8 b1, .int .u8 b2]
      simpa using this
    · rw [hW]; exact ((Below.refl _ _).alloc (Nat.le_refl _) _).alloc (by simp) _
  have HX := Lib.hid X0
  have HW := Lib.hid hW
  have EG := Lib.hid (And.intro hga hgb)
  have HTT := Lib.hid HT
  clear hW X0 hga hgb HT
  go_enter Try.func3, Try.ntmps3
  go_upto_region 1 with (fail)
  rw [← HW.out, ← EG.out.2, ← EG.out.1]
  clear HW EG
  go_wp2_with fail
  refine (awake19_any _).mono ?_
  rintro e w1 ⟨rfl, b1⟩
  have X1 := Lib.hid (HX.out.below b1)
  clear HX b1
  go_upto_region 3 with (fail)
  go_cut [9, 10] (fun pv qv wx => ∃ g9 g10, pv = .pointer (some ⟨g9, 0, none⟩) ∧ qv = .pointer (some ⟨g10, 0, none⟩) ∧ Hid (T4 w wx ga gb g9 g10 #[.int .u8 a0, .int .u8 a1, .int .u8 a2] #[.int .u8 b0, .int .u8 b1, .int .u8 b2] #[.int .u64 x1, .int .u64 x2, .int .u64 x3] #[.int .u64 y1, .int .u64 y2, .int .u64 y3]))
  case first =>
    obtain ⟨u0, hu0⟩ : ∃ u, u = w1.drew := ⟨_, rfl⟩
    have s := X1.out.below (show Below w1.heap.size w1 u0 by rw [hu0]; exact (Below.refl _ _).drew)
    refine wp_region_held_drew (S := fun w' => TBx w w' ga gb #[.int .u8 a0, .int .u8 a1, .int .u8 a2] #[.int .u8 b0, .int .u8 b1, .int .u8 b2]) (by kernel_rfl) (by rw [← hu0]; exact s) (fun s0 => ?_)
    rw [← hu0] at s0 ⊢
    clear hu0 s
    refine wpAnyH_take (i := 0) (oi := ⟨_, _, _, _, _, _⟩) (v := .pointer (some ⟨ga, 0, none⟩)) rfl (by kernel_rfl) (by kernel_rfl) (by kernel_rfl) (fun _ _ _ h => h) (Or.inl ⟨by rfl, fun w' hS => by go_simp⟩) s0 ?_
    simp only [Act.put, List.setIfInBounds_toArray, List.set_cons_zero, List.set_cons_succ]
    refine wpAnyH_take (i := 1) (oi := ⟨_, _, _, _, _, _⟩) (v := .int .u8 a0) rfl (by kernel_rfl) (by kernel_rfl) (by kernel_rfl) (fun _ _ _ h => h) (Or.inl ⟨by rfl, fun w' hS => by have cc := hS.a.cell 0; simp only [List.getElem?_toArray, List.getElem?_cons_zero, List.getElem?_cons_succ] at cc; have zz := hS.a.lt; go_simp⟩) s0 ?_
    simp only [Act.put, List.setIfInBounds_toArray, List.set_cons_zero, List.set_cons_succ]
    refine wpAnyH_take (i := 2) (oi := ⟨_, _, _, _, _, _⟩) (v := .pointer (some ⟨ga, 1, none⟩)) rfl (by kernel_rfl) (by kernel_rfl) (by kernel_rfl) (fun _ _ _ h => h) (Or.inl ⟨by rfl, fun w' hS => by go_simp⟩) s0 ?_
    simp only [Act.put, List.setIfInBounds_toArray, List.set_cons_zero, List.set_cons_succ]
    refine wpAnyH_take (i := 3) (oi := ⟨_, _, _, _, _, _⟩) (v := .int .u8 a1) rfl (by kernel_rfl) (by kernel_rfl) (by kernel_rfl) (fun _ _ _ h => h) (Or.inl ⟨by rfl, fun w' hS => by have cc := hS.a.cell 1; simp only [List.getElem?_toArray, List.getElem?_cons_zero, List.getElem?_cons_succ] at cc; have zz := hS.a.lt; go_simp⟩) s0 ?_
    simp only [Act.put, List.setIfInBounds_toArray, List.set_cons_zero, List.set_cons_succ]
    refine wpAnyH_take (i := 4) (oi := ⟨_, _, _, _, _, _⟩) (v := .pointer (some ⟨ga, 2, none⟩)) rfl (by kernel_rfl) (by kernel_rfl) (by kernel_rfl) (fun _ _ _ h => h) (Or.inl ⟨by rfl, fun w' hS => by go_simp⟩) s0 ?_
    simp only [Act.put, List.setIfInBounds_toArray, List.set_cons_zero, List.set_cons_succ]
    refine wpAnyH_take (i := 5) (oi := ⟨_, _, _, _, _, _⟩) (v := .int .u8 a2) rfl (by kernel_rfl) (by kernel_rfl) (by kernel_rfl) (fun _ _ _ h => h) (Or.inl ⟨by rfl, fun w' hS => by have cc := hS.a.cell 2; simp only [List.getElem?_toArray, List.getElem?_cons_zero, List.getElem?_cons_succ] at cc; have zz := hS.a.lt; go_simp⟩) s0 ?_
    simp only [Act.put, List.setIfInBounds_toArray, List.set_cons_zero, List.set_cons_succ]
    refine wpAnyH_take (i := 6) (oi := ⟨_, _, _, _, _, _⟩) (v := .int .u64 g) rfl (by kernel_rfl) (by kernel_rfl) (by kernel_rfl) (fun _ _ _ h => h) (Or.inl ⟨by rfl, fun w' hS => by go_simp⟩) s0 ?_
    simp only [Act.put, List.setIfInBounds_toArray, List.set_cons_zero, List.set_cons_succ]
    refine wpAnyH_take (i := 8) (oi := ⟨_, _, _, _, _, _⟩) (v := .pointer (some ⟨gb, 0, none⟩)) rfl (by kernel_rfl) (by kernel_rfl) (by kernel_rfl) (fun _ _ _ h => h) (Or.inl ⟨by rfl, fun w' hS => by go_simp⟩) s0 ?_
    simp only [Act.put, List.setIfInBounds_toArray, List.set_cons_zero, List.set_cons_succ]
    refine wpAnyH_take (i := 9) (oi := ⟨_, _, _, _, _, _⟩) (v := .int .u8 b0) rfl (by kernel_rfl) (by kernel_rfl) (by kernel_rfl) (fun _ _ _ h => h) (Or.inl ⟨by rfl, fun w' hS => by have cc := hS.b.cell 0; simp only [List.getElem?_toArray, List.getElem?_cons_zero, List.getElem?_cons_succ] at cc; have zz := hS.b.lt; go_simp⟩) s0 ?_
    simp only [Act.put, List.setIfInBounds_toArray, List.set_cons_zero, List.set_cons_succ]
    refine wpAnyH_take (i := 10) (oi := ⟨_, _, _, _, _, _⟩) (v := .pointer (some ⟨gb, 1, none⟩)) rfl (by kernel_rfl) (by kernel_rfl) (by kernel_rfl) (fun _ _ _ h => h) (Or.inl ⟨by rfl, fun w' hS => by go_simp⟩) s0 ?_
    simp only [Act.put, List.setIfInBounds_toArray, List.set_cons_zero, List.set_cons_succ]
    refine wpAnyH_take (i := 11) (oi := ⟨_, _, _, _, _, _⟩) (v := .int .u8 b1) rfl (by kernel_rfl) (by kernel_rfl) (by kernel_rfl) (fun _ _ _ h => h) (Or.inl ⟨by rfl, fun w' hS => by have cc := hS.b.cell 1; simp only [List.getElem?_toArray, List.getElem?_cons_zero, List.getElem?_cons_succ] at cc; have zz := hS.b.lt; go_simp⟩) s0 ?_
    simp only [Act.put, List.setIfInBounds_toArray, List.set_cons_zero, List.set_cons_succ]
    refine wpAnyH_take (i := 12) (oi := ⟨_, _, _, _, _, _⟩) (v := .pointer (some ⟨gb, 2, none⟩)) rfl (by kernel_rfl) (by kernel_rfl) (by kernel_rfl) (fun _ _ _ h => h) (Or.inl ⟨by rfl, fun w' hS => by go_simp⟩) s0 ?_
    simp only [Act.put, List.setIfInBounds_toArray, List.set_cons_zero, List.set_cons_succ]
    refine wpAnyH_take (i := 13) (oi := ⟨_, _, _, _, _, _⟩) (v := .int .u8 b2) rfl (by kernel_rfl) (by kernel_rfl) (by kernel_rfl) (fun _ _ _ h => h) (Or.inl ⟨by rfl, fun w' hS => by have cc := hS.b.cell 2; simp only [List.getElem?_toArray, List.getElem?_cons_zero, List.getElem?_cons_succ] at cc; have zz := hS.b.lt; go_simp⟩) s0 ?_
    simp only [Act.put, List.setIfInBounds_toArray, List.set_cons_zero, List.set_cons_succ]
    refine wpAnyH_take (i := 14) (oi := ⟨_, _, _, _, _, _⟩) (v := .int .u64 h) rfl (by kernel_rfl) (by kernel_rfl) (by kernel_rfl) (fun _ _ _ h => h) (Or.inl ⟨by rfl, fun w' hS => by go_simp⟩) s0 ?_
    simp only [Act.put, List.setIfInBounds_toArray, List.set_cons_zero, List.set_cons_succ]
    refine wpAnyH_ready (rs := [7, 16, 17]) (by kernel_rfl) (by simp) ?_
    refine AllReadyH.cons rfl (fun K hK => ?_) (AllReadyH.cons rfl (fun K hK => ?_) (AllReadyH.cons rfl (fun K hK => ?_) AllReadyH.nil))
    · skip
      go_simp
      refine (RX.out u0).mono ?_
      rintro e u1 ⟨rfl, bb1⟩
      have s1 := s0.below bb1
      refine hK.out _ _ s1 (fun _ => ?_)
      clear hK K
      have hsz1 : w.heap.size + 1 < u1.heap.size := s1.sz
      refine wpAnyH_ready (rs := [15, 16, 17]) (by kernel_rfl) (by simp) ?_
      refine AllReadyH.cons rfl (fun K hK => ?_) (AllReadyH.cons rfl (fun K hK => ?_) (AllReadyH.cons rfl (fun K hK => ?_) AllReadyH.nil))
      · skip
        go_simp
        refine (RY.out u1).mono ?_
        rintro e u2 ⟨rfl, bb2⟩
        have s2 := s1.below bb2
        refine hK.out _ _ s2 (fun _ => ?_)
        clear hK K
        have hsz2 : w.heap.size + 1 < u2.heap.size := s2.sz
        refine wpAnyH_ready (rs := [16, 17]) (by kernel_rfl) (by simp) ?_
        refine AllReadyH.cons rfl (fun K hK => ?_) (AllReadyH.cons rfl (fun K hK => ?_) AllReadyH.nil)
        · skip
          go_simp
          have bb3 : Below u2.heap.size u2 (u2.alloc (.cells #[.int .u64 0, .int .u64 0, .int .u64 0] 25)) := (Below.refl _ _).alloc (Nat.le_refl _) _
          have kn3 : Blk (u2.alloc (.cells #[.int .u64 0, .int .u64 0, .int .u64 0] 25)) u2.heap.size 25 #[.int .u64 0, .int .u64 0, .int .u64 0] := Blk.new _ _ _
          have s3 := s2.below bb3
          refine hK.out _ _ s3 (fun _ => ?_)
          clear hK K
          obtain ⟨u3, hu3⟩ : ∃ u, u = u2.alloc (.cells #[.int .u64 0, .int .u64 0, .int .u64 0] 25) := ⟨_, rfl⟩
          obtain ⟨gn3, hgn3⟩ : ∃ g, g = u2.heap.size := ⟨_, rfl⟩
          have hz3 := s2.sz
          rw [← hu3] at s3 kn3
          rw [← hgn3] at kn3 hz3 ⊢
          rw [← hu3]
          have hge93 : w.heap.size + 1 < gn3 := hz3
          have k163 := kn3
          clear hu3 hgn3 kn3 bb3
          refine wpAnyH_ready (rs := [17]) (by kernel_rfl) (by simp) ?_
          refine AllReadyH.cons rfl (fun K hK => ?_) AllReadyH.nil
          · skip
            go_simp
            have bb4 : Below u3.heap.size u3 (u3.alloc (.cells #[.int .u64 0, .int .u64 0, .int .u64 0] 25)) := (Below.refl _ _).alloc (Nat.le_refl _) _
            have kn4 : Blk (u3.alloc (.cells #[.int .u64 0, .int .u64 0, .int .u64 0] 25)) u3.heap.size 25 #[.int .u64 0, .int .u64 0, .int .u64 0] := Blk.new _ _ _
            have s4 := s3.below bb4
            refine hK.out _ _ s4 (fun _ => ?_)
            clear hK K
            obtain ⟨u4, hu4⟩ : ∃ u, u = u3.alloc (.cells #[.int .u64 0, .int .u64 0, .int .u64 0] 25) := ⟨_, rfl⟩
            obtain ⟨gn4, hgn4⟩ : ∃ g, g = u3.heap.size := ⟨_, rfl⟩
            have k164 := k163.below bb4 k163.lt
            have hz4 := s3.sz
            rw [← hu4] at s4 kn4 k164
            rw [← hgn4] at kn4 hz4 ⊢
            rw [← hu4]
            have hge104 : w.heap.size + 1 < gn4 := hz4
            have k174 := kn4
            have hge94 := hge93
            have hne4 : gn3 ≠ gn4 := by have := k163.lt; omega
            clear hu4 hgn4 kn4 bb4
            refine wpAnyH_ready (rs := [18]) (by kernel_rfl) (by simp) ?_
            refine AllReadyH.cons rfl (fun K hK => ?_) AllReadyH.nil
            rw [if_pos (by rfl)]
            refine wp_store_row 25 (.tmp 9) (.tmp 20) rfl gn3 #[.int .u64 x1, .int .u64 x2, .int .u64 x3] rfl rfl 25 _ k164 info_rank rfl (by simp [Value.oneCell']) ?_
            have t0 : TBx w (u4.setRow gn3 #[.int .u64 x1, .int .u64 x2, .int .u64 x3]) ga gb #[.int .u8 a0, .int .u8 a1, .int .u8 a2] #[.int .u8 b0, .int .u8 b1, .int .u8 b2] := s4.far hge94
            have k9s : Blk (u4.setRow gn3 #[.int .u64 x1, .int .u64 x2, .int .u64 x3]) gn3 25 #[.int .u64 x1, .int .u64 x2, .int .u64 x3] := Blk.rowT k164
            have k10s : Blk (u4.setRow gn3 #[.int .u64 x1, .int .u64 x2, .int .u64 x3]) gn4 25 #[.int .u64 0, .int .u64 0, .int .u64 0] := (setRow_other u4 gn3 gn4 #[.int .u64 x1, .int .u64 x2, .int .u64 x3] (by omega)).trans k174
            refine hK.out _ _ t0 (fun s7 => ?_)
            clear hK K
            simp only [Act.put, List.setIfInBounds_toArray, List.set_cons_zero, List.set_cons_succ]
            refine wpAnyH_ready (rs := [19]) (by kernel_rfl) (by simp) ?_
            refine AllReadyH.cons rfl (fun K hK => ?_) AllReadyH.nil
            rw [if_pos (by rfl)]
            refine wp_store_row 25 (.tmp 10) (.tmp 28) rfl gn4 #[.int .u64 y1, .int .u64 y2, .int .u64 y3] rfl rfl 25 _ k10s info_rank rfl (by simp [Value.oneCell']) ?_
            have t1 : TBx w ((u4.setRow gn3 #[.int .u64 x1, .int .u64 x2, .int .u64 x3]).setRow gn4 #[.int .u64 y1, .int .u64 y2, .int .u64 y3]) ga gb #[.int .u8 a0, .int .u8 a1, .int .u8 a2] #[.int .u8 b0, .int .u8 b1, .int .u8 b2] := t0.far hge104
            have k9t : Blk ((u4.setRow gn3 #[.int .u64 x1, .int .u64 x2, .int .u64 x3]).setRow gn4 #[.int .u64 y1, .int .u64 y2, .int .u64 y3]) gn3 25 #[.int .u64 x1, .int .u64 x2, .int .u64 x3] := (setRow_other (u4.setRow gn3 #[.int .u64 x1, .int .u64 x2, .int .u64 x3]) gn4 gn3 #[.int .u64 y1, .int .u64 y2, .int .u64 y3] (by omega)).trans k9s
            have k10t : Blk ((u4.setRow gn3 #[.int .u64 x1, .int .u64 x2, .int .u64 x3]).setRow gn4 #[.int .u64 y1, .int .u64 y2, .int .u64 y3]) gn4 25 #[.int .u64 y1, .int .u64 y2, .int .u64 y3] := Blk.rowT k10s
            refine hK.out _ _ t1 (fun s8 => ?_)
            clear hK K
            simp only [Act.put, List.setIfInBounds_toArray, List.set_cons_zero, List.set_cons_succ]
            refine wpAnyH_done (by kernel_rfl) ?_ _
            go_wp2_with fail
            go_meet
            exact ⟨gn3, gn4, rfl, rfl, ⟨t1.a, t1.b, k9t, k10t, t1.bel⟩⟩
        · skip
          go_simp
          have bb3 : Below u2.heap.size u2 (u2.alloc (.cells #[.int .u64 0, .int .u64 0, .int .u64 0] 25)) := (Below.refl _ _).alloc (Nat.le_refl _) _
          have kn3 : Blk (u2.alloc (.cells #[.int .u64 0, .int .u64 0, .int .u64 0] 25)) u2.heap.size 25 #[.int .u64 0, .int .u64 0, .int .u64 0] := Blk.new _ _ _
          have s3 := s2.below bb3
          refine hK.out _ _ s3 (fun _ => ?_)
          clear hK K
          obtain ⟨u3, hu3⟩ : ∃ u, u = u2.alloc (.cells #[.int .u64 0, .int .u64 0, .int .u64 0] 25) := ⟨_, rfl⟩
          obtain ⟨gn3, hgn3⟩ : ∃ g, g = u2.heap.size := ⟨_, rfl⟩
          have hz3 := s2.sz
          rw [← hu3] at s3 kn3
          rw [← hgn3] at kn3 hz3 ⊢
          rw [← hu3]
          have hge103 : w.heap.size + 1 < gn3 := hz3
          have k173 := kn3
          clear hu3 hgn3 kn3 bb3
          refine wpAnyH_ready (rs := [16]) (by kernel_rfl) (by simp) ?_
          refine AllReadyH.cons rfl (fun K hK => ?_) AllReadyH.nil
          · skip
            go_simp
            have bb4 : Below u3.heap.size u3 (u3.alloc (.cells #[.int .u64 0, .int .u64 0, .int .u64 0] 25)) := (Below.refl _ _).alloc (Nat.le_refl _) _
            have kn4 : Blk (u3.alloc (.cells #[.int .u64 0, .int .u64 0, .int .u64 0] 25)) u3.heap.size 25 #[.int .u64 0, .int .u64 0, .int .u64 0] := Blk.new _ _ _
            have s4 := s3.below bb4
            refine hK.out _ _ s4 (fun _ => ?_)
            clear hK K
            obtain ⟨u4, hu4⟩ : ∃ u, u = u3.alloc (.cells #[.int .u64 0, .int .u64 0, .int .u64 0] 25) := ⟨_, rfl⟩
            obtain ⟨gn4, hgn4⟩ : ∃ g, g = u3.heap.size := ⟨_, rfl⟩
            have k174 := k173.below bb4 k173.lt
            have hz4 := s3.sz
            rw [← hu4] at s4 kn4 k174
            rw [← hgn4] at kn4 hz4 ⊢
            rw [← hu4]
            have hge94 : w.heap.size + 1 < gn4 := hz4
            have k164 := kn4
            have hge104 := hge103
            have hne4 : gn3 ≠ gn4 := by have := k173.lt; omega
            clear hu4 hgn4 kn4 bb4
            refine wpAnyH_ready (rs := [18]) (by kernel_rfl) (by simp) ?_
            refine AllReadyH.cons rfl (fun K hK => ?_) AllReadyH.nil
            rw [if_pos (by rfl)]
            refine wp_store_row 25 (.tmp 9) (.tmp 20) rfl gn4 #[.int .u64 x1, .int .u64 x2, .int .u64 x3] rfl rfl 25 _ k164 info_rank rfl (by simp [Value.oneCell']) ?_
            have t0 : TBx w (u4.setRow gn4 #[.int .u64 x1, .int .u64 x2, .int .u64 x3]) ga gb #[.int .u8 a0, .int .u8 a1, .int .u8 a2] #[.int .u8 b0, .int .u8 b1, .int .u8 b2] := s4.far hge94
            have k9s : Blk (u4.setRow gn4 #[.int .u64 x1, .int .u64 x2, .int .u64 x3]) gn4 25 #[.int .u64 x1, .int .u64 x2, .int .u64 x3] := Blk.rowT k164
            have k10s : Blk (u4.setRow gn4 #[.int .u64 x1, .int .u64 x2, .int .u64 x3]) gn3 25 #[.int .u64 0, .int .u64 0, .int .u64 0] := (setRow_other u4 gn4 gn3 #[.int .u64 x1, .int .u64 x2, .int .u64 x3] (by omega)).trans k174
            refine hK.out _ _ t0 (fun s7 => ?_)
            clear hK K
            simp only [Act.put, List.setIfInBounds_toArray, List.set_cons_zero, List.set_cons_succ]
            refine wpAnyH_ready (rs := [19]) (by kernel_rfl) (by simp) ?_
            refine AllReadyH.cons rfl (fun K hK => ?_) AllReadyH.nil
            rw [if_pos (by rfl)]
            refine wp_store_row 25 (.tmp 10) (.tmp 28) rfl gn3 #[.int .u64 y1, .int .u64 y2, .int .u64 y3] rfl rfl 25 _ k10s info_rank rfl (by simp [Value.oneCell']) ?_
            have t1 : TBx w ((u4.setRow gn4 #[.int .u64 x1, .int .u64 x2, .int .u64 x3]).setRow gn3 #[.int .u64 y1, .int .u64 y2, .int .u64 y3]) ga gb #[.int .u8 a0, .int .u8 a1, .int .u8 a2] #[.int .u8 b0, .int .u8 b1, .int .u8 b2] := t0.far hge104
            have k9t : Blk ((u4.setRow gn4 #[.int .u64 x1, .int .u64 x2, .int .u64 x3]).setRow gn3 #[.int .u64 y1, .int .u64 y2, .int .u64 y3]) gn4 25 #[.int .u64 x1, .int .u64 x2, .int .u64 x3] := (setRow_other (u4.setRow gn4 #[.int .u64 x1, .int .u64 x2, .int .u64 x3]) gn3 gn4 #[.int .u64 y1, .int .u64 y2, .int .u64 y3] (by omega)).trans k9s
            have k10t : Blk ((u4.setRow gn4 #[.int .u64 x1, .int .u64 x2, .int .u64 x3]).setRow gn3 #[.int .u64 y1, .int .u64 y2, .int .u64 y3]) gn3 25 #[.int .u64 y1, .int .u64 y2, .int .u64 y3] := Blk.rowT k10s
            refine hK.out _ _ t1 (fun s8 => ?_)
            clear hK K
            simp only [Act.put, List.setIfInBounds_toArray, List.set_cons_zero, List.set_cons_succ]
            refine wpAnyH_done (by kernel_rfl) ?_ _
            go_wp2_with fail
            go_meet
            exact ⟨gn4, gn3, rfl, rfl, ⟨t1.a, t1.b, k9t, k10t, t1.bel⟩⟩
      · skip
        go_simp
        have bb2 : Below u1.heap.size u1 (u1.alloc (.cells #[.int .u64 0, .int .u64 0, .int .u64 0] 25)) := (Below.refl _ _).alloc (Nat.le_refl _) _
        have kn2 : Blk (u1.alloc (.cells #[.int .u64 0, .int .u64 0, .int .u64 0] 25)) u1.heap.size 25 #[.int .u64 0, .int .u64 0, .int .u64 0] := Blk.new _ _ _
        have s2 := s1.below bb2
        refine hK.out _ _ s2 (fun _ => ?_)
        clear hK K
        obtain ⟨u2, hu2⟩ : ∃ u, u = u1.alloc (.cells #[.int .u64 0, .int .u64 0, .int .u64 0] 25) := ⟨_, rfl⟩
        obtain ⟨gn2, hgn2⟩ : ∃ g, g = u1.heap.size := ⟨_, rfl⟩
        have hz2 := s1.sz
        rw [← hu2] at s2 kn2
        rw [← hgn2] at kn2 hz2 ⊢
        rw [← hu2]
        have hge92 : w.heap.size + 1 < gn2 := hz2
        have k162 := kn2
        clear hu2 hgn2 kn2 bb2
        refine wpAnyH_ready (rs := [15, 17]) (by kernel_rfl) (by simp) ?_
        refine AllReadyH.cons rfl (fun K hK => ?_) (AllReadyH.cons rfl (fun K hK => ?_) AllReadyH.nil)
        · skip
          go_simp
          refine (RY.out u2).mono ?_
          rintro e u3 ⟨rfl, bb3⟩
          have s3 := s2.below bb3
          refine hK.out _ _ s3 (fun _ => ?_)
          clear hK K
          have k163 := k162.below bb3 k162.lt
          have hge93 := hge92
          have hsz3 : w.heap.size + 1 < u3.heap.size := s3.sz
          have hlt93 := k163.lt
          refine wpAnyH_ready (rs := [17]) (by kernel_rfl) (by simp) ?_
          refine AllReadyH.cons rfl (fun K hK => ?_) AllReadyH.nil
          · skip
            go_simp
            have bb4 : Below u3.heap.size u3 (u3.alloc (.cells #[.int .u64 0, .int .u64 0, .int .u64 0] 25)) := (Below.refl _ _).alloc (Nat.le_refl _) _
            have kn4 : Blk (u3.alloc (.cells #[.int .u64 0, .int .u64 0, .int .u64 0] 25)) u3.heap.size 25 #[.int .u64 0, .int .u64 0, .int .u64 0] := Blk.new _ _ _
            have s4 := s3.below bb4
            refine hK.out _ _ s4 (fun _ => ?_)
            clear hK K
            obtain ⟨u4, hu4⟩ : ∃ u, u = u3.alloc (.cells #[.int .u64 0, .int .u64 0, .int .u64 0] 25) := ⟨_, rfl⟩
            obtain ⟨gn4, hgn4⟩ : ∃ g, g = u3.heap.size := ⟨_, rfl⟩
            have k164 := k163.below bb4 k163.lt
            have hz4 := s3.sz
            rw [← hu4] at s4 kn4 k164
            rw [← hgn4] at kn4 hz4 ⊢
            rw [← hu4]
            have hge104 : w.heap.size + 1 < gn4 := hz4
            have k174 := kn4
            have hge94 := hge93
            have hne4 : gn2 ≠ gn4 := by have := k163.lt; omega
            clear hu4 hgn4 kn4 bb4
            refine wpAnyH_ready (rs := [18]) (by kernel_rfl) (by simp) ?_
            refine AllReadyH.cons rfl (fun K hK => ?_) AllReadyH.nil
            rw [if_pos (by rfl)]
            refine wp_store_row 25 (.tmp 9) (.tmp 20) rfl gn2 #[.int .u64 x1, .int .u64 x2, .int .u64 x3] rfl rfl 25 _ k164 info_rank rfl (by simp [Value.oneCell']) ?_
            have t0 : TBx w (u4.setRow gn2 #[.int .u64 x1, .int .u64 x2, .int .u64 x3]) ga gb #[.int .u8 a0, .int .u8 a1, .int .u8 a2] #[.int .u8 b0, .int .u8 b1, .int .u8 b2] := s4.far hge94
            have k9s : Blk (u4.setRow gn2 #[.int .u64 x1, .int .u64 x2, .int .u64 x3]) gn2 25 #[.int .u64 x1, .int .u64 x2, .int .u64 x3] := Blk.rowT k164
            have k10s : Blk (u4.setRow gn2 #[.int .u64 x1, .int .u64 x2, .int .u64 x3]) gn4 25 #[.int .u64 0, .int .u64 0, .int .u64 0] := (setRow_other u4 gn2 gn4 #[.int .u64 x1, .int .u64 x2, .int .u64 x3] (by omega)).trans k174
            refine hK.out _ _ t0 (fun s7 => ?_)
            clear hK K
            simp only [Act.put, List.setIfInBounds_toArray, List.set_cons_zero, List.set_cons_succ]
            refine wpAnyH_ready (rs := [19]) (by kernel_rfl) (by simp) ?_
            refine AllReadyH.cons rfl (fun K hK => ?_) AllReadyH.nil
            rw [if_pos (by rfl)]
            refine wp_store_row 25 (.tmp 10) (.tmp 28) rfl gn4 #[.int .u64 y1, .int .u64 y2, .int .u64 y3] rfl rfl 25 _ k10s info_rank rfl (by simp [Value.oneCell']) ?_
            have t1 : TBx w ((u4.setRow gn2 #[.int .u64 x1, .int .u64 x2, .int .u64 x3]).setRow gn4 #[.int .u64 y1, .int .u64 y2, .int .u64 y3]) ga gb #[.int .u8 a0, .int .u8 a1, .int .u8 a2] #[.int .u8 b0, .int .u8 b1, .int .u8 b2] := t0.far hge104
            have k9t : Blk ((u4.setRow gn2 #[.int .u64 x1, .int .u64 x2, .int .u64 x3]).setRow gn4 #[.int .u64 y1, .int .u64 y2, .int .u64 y3]) gn2 25 #[.int .u64 x1, .int .u64 x2, .int .u64 x3] := (setRow_other (u4.setRow gn2 #[.int .u64 x1, .int .u64 x2, .int .u64 x3]) gn4 gn2 #[.int .u64 y1, .int .u64 y2, .int .u64 y3] (by omega)).trans k9s
            have k10t : Blk ((u4.setRow gn2 #[.int .u64 x1, .int .u64 x2, .int .u64 x3]).setRow gn4 #[.int .u64 y1, .int .u64 y2, .int .u64 y3]) gn4 25 #[.int .u64 y1, .int .u64 y2, .int .u64 y3] := Blk.rowT k10s
            refine hK.out _ _ t1 (fun s8 => ?_)
            clear hK K
            simp only [Act.put, List.setIfInBounds_toArray, List.set_cons_zero, List.set_cons_succ]
            refine wpAnyH_done (by kernel_rfl) ?_ _
            go_wp2_with fail
            go_meet
            exact ⟨gn2, gn4, rfl, rfl, ⟨t1.a, t1.b, k9t, k10t, t1.bel⟩⟩
        · skip
          go_simp
          have bb3 : Below u2.heap.size u2 (u2.alloc (.cells #[.int .u64 0, .int .u64 0, .int .u64 0] 25)) := (Below.refl _ _).alloc (Nat.le_refl _) _
          have kn3 : Blk (u2.alloc (.cells #[.int .u64 0, .int .u64 0, .int .u64 0] 25)) u2.heap.size 25 #[.int .u64 0, .int .u64 0, .int .u64 0] := Blk.new _ _ _
          have s3 := s2.below bb3
          refine hK.out _ _ s3 (fun _ => ?_)
          clear hK K
          obtain ⟨u3, hu3⟩ : ∃ u, u = u2.alloc (.cells #[.int .u64 0, .int .u64 0, .int .u64 0] 25) := ⟨_, rfl⟩
          obtain ⟨gn3, hgn3⟩ : ∃ g, g = u2.heap.size := ⟨_, rfl⟩
          have k163 := k162.below bb3 k162.lt
          have hz3 := s2.sz
          rw [← hu3] at s3 kn3 k163
          rw [← hgn3] at kn3 hz3 ⊢
          rw [← hu3]
          have hge103 : w.heap.size + 1 < gn3 := hz3
          have k173 := kn3
          have hge93 := hge92
          have hne3 : gn2 ≠ gn3 := by have := k162.lt; omega
          clear hu3 hgn3 kn3 bb3
          refine wpAnyH_ready (rs := [15]) (by kernel_rfl) (by simp) ?_
          refine AllReadyH.cons rfl (fun K hK => ?_) AllReadyH.nil
          · skip
            go_simp
            refine (RY.out u3).mono ?_
            rintro e u4 ⟨rfl, bb4⟩
            have s4 := s3.below bb4
            refine hK.out _ _ s4 (fun _ => ?_)
            clear hK K
            have k164 := k163.below bb4 k163.lt
            have k174 := k173.below bb4 k173.lt
            have hge94 := hge93
            have hge104 := hge103
            have hsz4 : w.heap.size + 1 < u4.heap.size := s4.sz
            have hne4 := hne3
            have hlt94 := k164.lt
            have hlt104 := k174.lt
            refine wpAnyH_ready (rs := [18]) (by kernel_rfl) (by simp) ?_
            refine AllReadyH.cons rfl (fun K hK => ?_) AllReadyH.nil
            rw [if_pos (by rfl)]
            refine wp_store_row 25 (.tmp 9) (.tmp 20) rfl gn2 #[.int .u64 x1, .int .u64 x2, .int .u64 x3] rfl rfl 25 _ k164 info_rank rfl (by simp [Value.oneCell']) ?_
            have t0 : TBx w (u4.setRow gn2 #[.int .u64 x1, .int .u64 x2, .int .u64 x3]) ga gb #[.int .u8 a0, .int .u8 a1, .int .u8 a2] #[.int .u8 b0, .int .u8 b1, .int .u8 b2] := s4.far hge94
            have k9s : Blk (u4.setRow gn2 #[.int .u64 x1, .int .u64 x2, .int .u64 x3]) gn2 25 #[.int .u64 x1, .int .u64 x2, .int .u64 x3] := Blk.rowT k164
            have k10s : Blk (u4.setRow gn2 #[.int .u64 x1, .int .u64 x2, .int .u64 x3]) gn3 25 #[.int .u64 0, .int .u64 0, .int .u64 0] := (setRow_other u4 gn2 gn3 #[.int .u64 x1, .int .u64 x2, .int .u64 x3] (by omega)).trans k174
            refine hK.out _ _ t0 (fun s7 => ?_)
            clear hK K
            simp only [Act.put, List.setIfInBounds_toArray, List.set_cons_zero, List.set_cons_succ]
            refine wpAnyH_ready (rs := [19]) (by kernel_rfl) (by simp) ?_
            refine AllReadyH.cons rfl (fun K hK => ?_) AllReadyH.nil
            rw [if_pos (by rfl)]
            refine wp_store_row 25 (.tmp 10) (.tmp 28) rfl gn3 #[.int .u64 y1, .int .u64 y2, .int .u64 y3] rfl rfl 25 _ k10s info_rank rfl (by simp [Value.oneCell']) ?_
            have t1 : TBx w ((u4.setRow gn2 #[.int .u64 x1, .int .u64 x2, .int .u64 x3]).setRow gn3 #[.int .u64 y1, .int .u64 y2, .int .u64 y3]) ga gb #[.int .u8 a0, .int .u8 a1, .int .u8 a2] #[.int .u8 b0, .int .u8 b1, .int .u8 b2] := t0.far hge104
            have k9t : Blk ((u4.setRow gn2 #[.int .u64 x1, .int .u64 x2, .int .u64 x3]).setRow gn3 #[.int .u64 y1, .int .u64 y2, .int .u64 y3]) gn2 25 #[.int .u64 x1, .int .u64 x2, .int .u64 x3] := (setRow_other (u4.setRow gn2 #[.int .u64 x1, .int .u64 x2, .int .u64 x3]) gn3 gn2 #[.int .u64 y1, .int .u64 y2, .int .u64 y3] (by omega)).trans k9s
            have k10t : Blk ((u4.setRow gn2 #[.int .u64 x1, .int .u64 x2, .int .u64 x3]).setRow gn3 #[.int .u64 y1, .int .u64 y2, .int .u64 y3]) gn3 25 #[.int .u64 y1, .int .u64 y2, .int .u64 y3] := Blk.rowT k10s
            refine hK.out _ _ t1 (fun s8 => ?_)
            clear hK K
            simp only [Act.put, List.setIfInBounds_toArray, List.set_cons_zero, List.set_cons_succ]
            refine wpAnyH_done (by kernel_rfl) ?_ _
            go_wp2_with fail
            go_meet
            exact ⟨gn2, gn3, rfl, rfl, ⟨t1.a, t1.b, k9t, k10t, t1.bel⟩⟩
      · skip
        go_simp
        have bb2 : Below u1.heap.size u1 (u1.alloc (.cells #[.int .u64 0, .int .u64 0, .int .u64 0] 25)) := (Below.refl _ _).alloc (Nat.le_refl _) _
        have kn2 : Blk (u1.alloc (.cells #[.int .u64 0, .int .u64 0, .int .u64 0] 25)) u1.heap.size 25 #[.int .u64 0, .int .u64 0, .int .u64 0] := Blk.new _ _ _
        have s2 := s1.below bb2
        refine hK.out _ _ s2 (fun _ => ?_)
        clear hK K
        obtain ⟨u2, hu2⟩ : ∃ u, u = u1.alloc (.cells #[.int .u64 0, .int .u64 0, .int .u64 0] 25) := ⟨_, rfl⟩
        obtain ⟨gn2, hgn2⟩ : ∃ g, g = u1.heap.size := ⟨_, rfl⟩
        have hz2 := s1.sz
        rw [← hu2] at s2 kn2
        rw [← hgn2] at kn2 hz2 ⊢
        rw [← hu2]
        have hge102 : w.heap.size + 1 < gn2 := hz2
        have k172 := kn2
        clear hu2 hgn2 kn2 bb2
        refine wpAnyH_ready (rs := [15, 16]) (by kernel_rfl) (by simp) ?_
        refine AllReadyH.cons rfl (fun K hK => ?_) (AllReadyH.cons rfl (fun K hK => ?_) AllReadyH.nil)
        · skip
          go_simp
          refine (RY.out u2).mono ?_
          rintro e u3 ⟨rfl, bb3⟩
          have s3 := s2.below bb3
          refine hK.out _ _ s3 (fun _ => ?_)
          clear hK K
          have k173 := k172.below bb3 k172.lt
          have hge103 := hge102
          have hsz3 : w.heap.size + 1 < u3.heap.size := s3.sz
          have hlt103 := k173.lt
          refine wpAnyH_ready (rs := [16]) (by kernel_rfl) (by simp) ?_
          refine AllReadyH.cons rfl (fun K hK => ?_) AllReadyH.nil
          · skip
            go_simp
            have bb4 : Below u3.heap.size u3 (u3.alloc (.cells #[.int .u64 0, .int .u64 0, .int .u64 0] 25)) := (Below.refl _ _).alloc (Nat.le_refl _) _
            have kn4 : Blk (u3.alloc (.cells #[.int .u64 0, .int .u64 0, .int .u64 0] 25)) u3.heap.size 25 #[.int .u64 0, .int .u64 0, .int .u64 0] := Blk.new _ _ _
            have s4 := s3.below bb4
            refine hK.out _ _ s4 (fun _ => ?_)
            clear hK K
            obtain ⟨u4, hu4⟩ : ∃ u, u = u3.alloc (.cells #[.int .u64 0, .int .u64 0, .int .u64 0] 25) := ⟨_, rfl⟩
            obtain ⟨gn4, hgn4⟩ : ∃ g, g = u3.heap.size := ⟨_, rfl⟩
            have k174 := k173.below bb4 k173.lt
            have hz4 := s3.sz
            rw [← hu4] at s4 kn4 k174
            rw [← hgn4] at kn4 hz4 ⊢
            rw [← hu4]
            have hge94 : w.heap.size + 1 < gn4 := hz4
            have k164 := kn4
            have hge104 := hge103
            have hne4 : gn2 ≠ gn4 := by have := k173.lt; omega
            clear hu4 hgn4 kn4 bb4
            refine wpAnyH_ready (rs := [18]) (by kernel_rfl) (by simp) ?_
            refine AllReadyH.cons rfl (fun K hK => ?_) AllReadyH.nil
            rw [if_pos (by rfl)]
            refine wp_store_row 25 (.tmp 9) (.tmp 20) rfl gn4 #[.int .u64 x1, .int .u64 x2, .int .u64 x3] rfl rfl 25 _ k164 info_rank rfl (by simp [Value.oneCell']) ?_
            have t0 : TBx w (u4.setRow gn4 #[.int .u64 x1, .int .u64 x2, .int .u64 x3]) ga gb #[.int .u8 a0, .int .u8 a1, .int .u8 a2] #[.int .u8 b0, .int .u8 b1, .int .u8 b2] := s4.far hge94
            have k9s : Blk (u4.setRow gn4 #[.int .u64 x1, .int .u64 x2, .int .u64 x3]) gn4 25 #[.int .u64 x1, .int .u64 x2, .int .u64 x3] := Blk.rowT k164
            have k10s : Blk (u4.setRow gn4 #[.int .u64 x1, .int .u64 x2, .int .u64 x3]) gn2 25 #[.int .u64 0, .int .u64 0, .int .u64 0] := (setRow_other u4 gn4 gn2 #[.int .u64 x1, .int .u64 x2, .int .u64 x3] (by omega)).trans k174
            refine hK.out _ _ t0 (fun s7 => ?_)
            clear hK K
            simp only [Act.put, List.setIfInBounds_toArray, List.set_cons_zero, List.set_cons_succ]
            refine wpAnyH_ready (rs := [19]) (by kernel_rfl) (by simp) ?_
            refine AllReadyH.cons rfl (fun K hK => ?_) AllReadyH.nil
            rw [if_pos (by rfl)]
            refine wp_store_row 25 (.tmp 10) (.tmp 28) rfl gn2 #[.int .u64 y1, .int .u64 y2, .int .u64 y3] rfl rfl 25 _ k10s info_rank rfl (by simp [Value.oneCell']) ?_
            have t1 : TBx w ((u4.setRow gn4 #[.int .u64 x1, .int .u64 x2, .int .u64 x3]).setRow gn2 #[.int .u64 y1, .int .u64 y2, .int .u64 y3]) ga gb #[.int .u8 a0, .int .u8 a1, .int .u8 a2] #[.int .u8 b0, .int .u8 b1, .int .u8 b2] := t0.far hge104
            have k9t : Blk ((u4.setRow gn4 #[.int .u64 x1, .int .u64 x2, .int .u64 x3]).setRow gn2 #[.int .u64 y1, .int .u64 y2, .int .u64 y3]) gn4 25 #[.int .u64 x1, .int .u64 x2, .int .u64 x3] := (setRow_other (u4.setRow gn4 #[.int .u64 x1, .int .u64 x2, .int .u64 x3]) gn2 gn4 #[.int .u64 y1, .int .u64 y2, .int .u64 y3] (by omega)).trans k9s
            have k10t : Blk ((u4.setRow gn4 #[.int .u64 x1, .int .u64 x2, .int .u64 x3]).setRow gn2 #[.int .u64 y1, .int .u64 y2, .int .u64 y3]) gn2 25 #[.int .u64 y1, .int .u64 y2, .int .u64 y3] := Blk.rowT k10s
            refine hK.out _ _ t1 (fun s8 => ?_)
            clear hK K
            simp only [Act.put, List.setIfInBounds_toArray, List.set_cons_zero, List.set_cons_succ]
            refine wpAnyH_done (by kernel_rfl) ?_ _
            go_wp2_with fail
            go_meet
            exact ⟨gn4, gn2, rfl, rfl, ⟨t1.a, t1.b, k9t, k10t, t1.bel⟩⟩
        · skip
          go_simp
          have bb3 : Below u2.heap.size u2 (u2.alloc (.cells #[.int .u64 0, .int .u64 0, .int .u64 0] 25)) := (Below.refl _ _).alloc (Nat.le_refl _) _
          have kn3 : Blk (u2.alloc (.cells #[.int .u64 0, .int .u64 0, .int .u64 0] 25)) u2.heap.size 25 #[.int .u64 0, .int .u64 0, .int .u64 0] := Blk.new _ _ _
          have s3 := s2.below bb3
          refine hK.out _ _ s3 (fun _ => ?_)
          clear hK K
          obtain ⟨u3, hu3⟩ : ∃ u, u = u2.alloc (.cells #[.int .u64 0, .int .u64 0, .int .u64 0] 25) := ⟨_, rfl⟩
          obtain ⟨gn3, hgn3⟩ : ∃ g, g = u2.heap.size := ⟨_, rfl⟩
          have k173 := k172.below bb3 k172.lt
          have hz3 := s2.sz
          rw [← hu3] at s3 kn3 k173
          rw [← hgn3] at kn3 hz3 ⊢
          rw [← hu3]
          have hge93 : w.heap.size + 1 < gn3 := hz3
          have k163 := kn3
          have hge103 := hge102
          have hne3 : gn2 ≠ gn3 := by have := k172.lt; omega
          clear hu3 hgn3 kn3 bb3
          refine wpAnyH_ready (rs := [15]) (by kernel_rfl) (by simp) ?_
          refine AllReadyH.cons rfl (fun K hK => ?_) AllReadyH.nil
          · skip
            go_simp
            refine (RY.out u3).mono ?_
            rintro e u4 ⟨rfl, bb4⟩
            have s4 := s3.below bb4
            refine hK.out _ _ s4 (fun _ => ?_)
            clear hK K
            have k174 := k173.below bb4 k173.lt
            have k164 := k163.below bb4 k163.lt
            have hge94 := hge93
            have hge104 := hge103
            have hsz4 : w.heap.size + 1 < u4.heap.size := s4.sz
            have hne4 := hne3
            have hlt94 := k164.lt
            have hlt104 := k174.lt
            refine wpAnyH_ready (rs := [18]) (by kernel_rfl) (by simp) ?_
            refine AllReadyH.cons rfl (fun K hK => ?_) AllReadyH.nil
            rw [if_pos (by rfl)]
            refine wp_store_row 25 (.tmp 9) (.tmp 20) rfl gn3 #[.int .u64 x1, .int .u64 x2, .int .u64 x3] rfl rfl 25 _ k164 info_rank rfl (by simp [Value.oneCell']) ?_
            have t0 : TBx w (u4.setRow gn3 #[.int .u64 x1, .int .u64 x2, .int .u64 x3]) ga gb #[.int .u8 a0, .int .u8 a1, .int .u8 a2] #[.int .u8 b0, .int .u8 b1, .int .u8 b2] := s4.far hge94
            have k9s : Blk (u4.setRow gn3 #[.int .u64 x1, .int .u64 x2, .int .u64 x3]) gn3 25 #[.int .u64 x1, .int .u64 x2, .int .u64 x3] := Blk.rowT k164
            have k10s : Blk (u4.setRow gn3 #[.int .u64 x1, .int .u64 x2, .int .u64 x3]) gn2 25 #[.int .u64 0, .int .u64 0, .int .u64 0] := (setRow_other u4 gn3 gn2 #[.int .u64 x1, .int .u64 x2, .int .u64 x3] (by omega)).trans k174
            refine hK.out _ _ t0 (fun s7 => ?_)
            clear hK K
            simp only [Act.put, List.setIfInBounds_toArray, List.set_cons_zero, List.set_cons_succ]
            refine wpAnyH_ready (rs := [19]) (by kernel_rfl) (by simp) ?_
            refine AllReadyH.cons rfl (fun K hK => ?_) AllReadyH.nil
            rw [if_pos (by rfl)]
            refine wp_store_row 25 (.tmp 10) (.tmp 28) rfl gn2 #[.int .u64 y1, .int .u64 y2, .int .u64 y3] rfl rfl 25 _ k10s info_rank rfl (by simp [Value.oneCell']) ?_
            have t1 : TBx w ((u4.setRow gn3 #[.int .u64 x1, .int .u64 x2, .int .u64 x3]).setRow gn2 #[.int .u64 y1, .int .u64 y2, .int .u64 y3]) ga gb #[.int .u8 a0, .int .u8 a1, .int .u8 a2] #[.int .u8 b0, .int .u8 b1, .int .u8 b2] := t0.far hge104
            have k9t : Blk ((u4.setRow gn3 #[.int .u64 x1, .int .u64 x2, .int .u64 x3]).setRow gn2 #[.int .u64 y1, .int .u64 y2, .int .u64 y3]) gn3 25 #[.int .u64 x1, .int .u64 x2, .int .u64 x3] := (setRow_other (u4.setRow gn3 #[.int .u64 x1, .int .u64 x2, .int .u64 x3]) gn2 gn3 #[.int .u64 y1, .int .u64 y2, .int .u64 y3] (by omega)).trans k9s
            have k10t : Blk ((u4.setRow gn3 #[.int .u64 x1, .int .u64 x2, .int .u64 x3]).setRow gn2 #[.int .u64 y1, .int .u64 y2, .int .u64 y3]) gn2 25 #[.int .u64 y1, .int .u64 y2, .int .u64 y3] := Blk.rowT k10s
            refine hK.out _ _ t1 (fun s8 => ?_)
            clear hK K
            simp only [Act.put, List.setIfInBounds_toArray, List.set_cons_zero, List.set_cons_succ]
            refine wpAnyH_done (by kernel_rfl) ?_ _
            go_wp2_with fail
            go_meet
            exact ⟨gn3, gn2, rfl, rfl, ⟨t1.a, t1.b, k9t, k10t, t1.bel⟩⟩
    · skip
      go_simp
      have bb1 : Below u0.heap.size u0 (u0.alloc (.cells #[.int .u64 0, .int .u64 0, .int .u64 0] 25)) := (Below.refl _ _).alloc (Nat.le_refl _) _
      have kn1 : Blk (u0.alloc (.cells #[.int .u64 0, .int .u64 0, .int .u64 0] 25)) u0.heap.size 25 #[.int .u64 0, .int .u64 0, .int .u64 0] := Blk.new _ _ _
      have s1 := s0.below bb1
      refine hK.out _ _ s1 (fun _ => ?_)
      clear hK K
      obtain ⟨u1, hu1⟩ : ∃ u, u = u0.alloc (.cells #[.int .u64 0, .int .u64 0, .int .u64 0] 25) := ⟨_, rfl⟩
      obtain ⟨gn1, hgn1⟩ : ∃ g, g = u0.heap.size := ⟨_, rfl⟩
      have hz1 := s0.sz
      rw [← hu1] at s1 kn1
      rw [← hgn1] at kn1 hz1 ⊢
      rw [← hu1]
      have hge91 : w.heap.size + 1 < gn1 := hz1
      have k161 := kn1
      clear hu1 hgn1 kn1 bb1
      refine wpAnyH_ready (rs := [7, 17]) (by kernel_rfl) (by simp) ?_
      refine AllReadyH.cons rfl (fun K hK => ?_) (AllReadyH.cons rfl (fun K hK => ?_) AllReadyH.nil)
      · skip
        go_simp
        refine (RX.out u1).mono ?_
        rintro e u2 ⟨rfl, bb2⟩
        have s2 := s1.below bb2
        refine hK.out _ _ s2 (fun _ => ?_)
        clear hK K
        have k162 := k161.below bb2 k161.lt
        have hge92 := hge91
        have hsz2 : w.heap.size + 1 < u2.heap.size := s2.sz
        have hlt92 := k162.lt
        refine wpAnyH_ready (rs := [15, 17]) (by kernel_rfl) (by simp) ?_
        refine AllReadyH.cons rfl (fun K hK => ?_) (AllReadyH.cons rfl (fun K hK => ?_) AllReadyH.nil)
        · skip
          go_simp
          refine (RY.out u2).mono ?_
          rintro e u3 ⟨rfl, bb3⟩
          have s3 := s2.below bb3
          refine hK.out _ _ s3 (fun _ => ?_)
          clear hK K
          have k163 := k162.below bb3 k162.lt
          have hge93 := hge92
          have hsz3 : w.heap.size + 1 < u3.heap.size := s3.sz
          have hlt93 := k163.lt
          refine wpAnyH_ready (rs := [17]) (by kernel_rfl) (by simp) ?_
          refine AllReadyH.cons rfl (fun K hK => ?_) AllReadyH.nil
          · skip
            go_simp
            have bb4 : Below u3.heap.size u3 (u3.alloc (.cells #[.int .u64 0, .int .u64 0, .int .u64 0] 25)) := (Below.refl _ _).alloc (Nat.le_refl _) _
            have kn4 : Blk (u3.alloc (.cells #[.int .u64 0, .int .u64 0, .int .u64 0] 25)) u3.heap.size 25 #[.int .u64 0, .int .u64 0, .int .u64 0] := Blk.new _ _ _
            have s4 := s3.below bb4
            refine hK.out _ _ s4 (fun _ => ?_)
            clear hK K
            obtain ⟨u4, hu4⟩ : ∃ u, u = u3.alloc (.cells #[.int .u64 0, .int .u64 0, .int .u64 0] 25) := ⟨_, rfl⟩
            obtain ⟨gn4, hgn4⟩ : ∃ g, g = u3.heap.size := ⟨_, rfl⟩
            have k164 := k163.below bb4 k163.lt
            have hz4 := s3.sz
            rw [← hu4] at s4 kn4 k164
            rw [← hgn4] at kn4 hz4 ⊢
            rw [← hu4]
            have hge104 : w.heap.size + 1 < gn4 := hz4
            have k174 := kn4
            have hge94 := hge93
            have hne4 : gn1 ≠ gn4 := by have := k163.lt; omega
            clear hu4 hgn4 kn4 bb4
            refine wpAnyH_ready (rs := [18]) (by kernel_rfl) (by simp) ?_
            refine AllReadyH.cons rfl (fun K hK => ?_) AllReadyH.nil
            rw [if_pos (by rfl)]
            refine wp_store_row 25 (.tmp 9) (.tmp 20) rfl gn1 #[.int .u64 x1, .int .u64 x2, .int .u64 x3] rfl rfl 25 _ k164 info_rank rfl (by simp [Value.oneCell']) ?_
            have t0 : TBx w (u4.setRow gn1 #[.int .u64 x1, .int .u64 x2, .int .u64 x3]) ga gb #[.int .u8 a0, .int .u8 a1, .int .u8 a2] #[.int .u8 b0, .int .u8 b1, .int .u8 b2] := s4.far hge94
            have k9s : Blk (u4.setRow gn1 #[.int .u64 x1, .int .u64 x2, .int .u64 x3]) gn1 25 #[.int .u64 x1, .int .u64 x2, .int .u64 x3] := Blk.rowT k164
            have k10s : Blk (u4.setRow gn1 #[.int .u64 x1, .int .u64 x2, .int .u64 x3]) gn4 25 #[.int .u64 0, .int .u64 0, .int .u64 0] := (setRow_other u4 gn1 gn4 #[.int .u64 x1, .int .u64 x2, .int .u64 x3] (by omega)).trans k174
            refine hK.out _ _ t0 (fun s7 => ?_)
            clear hK K
            simp only [Act.put, List.setIfInBounds_toArray, List.set_cons_zero, List.set_cons_succ]
            refine wpAnyH_ready (rs := [19]) (by kernel_rfl) (by simp) ?_
            refine AllReadyH.cons rfl (fun K hK => ?_) AllReadyH.nil
            rw [if_pos (by rfl)]
            refine wp_store_row 25 (.tmp 10) (.tmp 28) rfl gn4 #[.int .u64 y1, .int .u64 y2, .int .u64 y3] rfl rfl 25 _ k10s info_rank rfl (by simp [Value.oneCell']) ?_
            have t1 : TBx w ((u4.setRow gn1 #[.int .u64 x1, .int .u64 x2, .int .u64 x3]).setRow gn4 #[.int .u64 y1, .int .u64 y2, .int .u64 y3]) ga gb #[.int .u8 a0, .int .u8 a1, .int .u8 a2] #[.int .u8 b0, .int .u8 b1, .int .u8 b2] := t0.far hge104
            have k9t : Blk ((u4.setRow gn1 #[.int .u64 x1, .int .u64 x2, .int .u64 x3]).setRow gn4 #[.int .u64 y1, .int .u64 y2, .int .u64 y3]) gn1 25 #[.int .u64 x1, .int .u64 x2, .int .u64 x3] := (setRow_other (u4.setRow gn1 #[.int .u64 x1, .int .u64 x2, .int .u64 x3]) gn4 gn1 #[.int .u64 y1, .int .u64 y2, .int .u64 y3] (by omega)).trans k9s
            have k10t : Blk ((u4.setRow gn1 #[.int .u64 x1, .int .u64 x2, .int .u64 x3]).setRow gn4 #[.int .u64 y1, .int .u64 y2, .int .u64 y3]) gn4 25 #[.int .u64 y1, .int .u64 y2, .int .u64 y3] := Blk.rowT k10s
            refine hK.out _ _ t1 (fun s8 => ?_)
            clear hK K
            simp only [Act.put, List.setIfInBounds_toArray, List.set_cons_zero, List.set_cons_succ]
            refine wpAnyH_done (by kernel_rfl) ?_ _
            go_wp2_with fail
            go_meet
            exact ⟨gn1, gn4, rfl, rfl, ⟨t1.a, t1.b, k9t, k10t, t1.bel⟩⟩
        · skip
          go_simp
          have bb3 : Below u2.heap.size u2 (u2.alloc (.cells #[.int .u64 0, .int .u64 0, .int .u64 0] 25)) := (Below.refl _ _).alloc (Nat.le_refl _) _
          have kn3 : Blk (u2.alloc (.cells #[.int .u64 0, .int .u64 0, .int .u64 0] 25)) u2.heap.size 25 #[.int .u64 0, .int .u64 0, .int .u64 0] := Blk.new _ _ _
          have s3 := s2.below bb3
          refine hK.out _ _ s3 (fun _ => ?_)
          clear hK K
          obtain ⟨u3, hu3⟩ : ∃ u, u = u2.alloc (.cells #[.int .u64 0, .int .u64 0, .int .u64 0] 25) := ⟨_, rfl⟩
          obtain ⟨gn3, hgn3⟩ : ∃ g, g = u2.heap.size := ⟨_, rfl⟩
          have k163 := k162.below bb3 k162.lt
          have hz3 := s2.sz
          rw [← hu3] at s3 kn3 k163
          rw [← hgn3] at kn3 hz3 ⊢
          rw [← hu3]
          have hge103 : w.heap.size + 1 < gn3 := hz3
          have k173 := kn3
          have hge93 := hge92
          have hne3 : gn1 ≠ gn3 := by have := k162.lt; omega
          clear hu3 hgn3 kn3 bb3
          refine wpAnyH_ready (rs := [15]) (by kernel_rfl) (by simp) ?_
          refine AllReadyH.cons rfl (fun K hK => ?_) AllReadyH.nil
          · skip
            go_simp
            refine (RY.out u3).mono ?_
            rintro e u4 ⟨rfl, bb4⟩
            have s4 := s3.below bb4
            refine hK.out _ _ s4 (fun _ => ?_)
            clear hK K
            have k164 := k163.below bb4 k163.lt
            have k174 := k173.below bb4 k173.lt
            have hge94 := hge93
            have hge104 := hge103
            have hsz4 : w.heap.size + 1 < u4.heap.size := s4.sz
            have hne4 := hne3
            have hlt94 := k164.lt
            have hlt104 := k174.lt
            refine wpAnyH_ready (rs := [18]) (by kernel_rfl) (by simp) ?_
            refine AllReadyH.cons rfl (fun K hK => ?_) AllReadyH.nil
            rw [if_pos (by rfl)]
            refine wp_store_row 25 (.tmp 9) (.tmp 20) rfl gn1 #[.int .u64 x1, .int .u64 x2, .int .u64 x3] rfl rfl 25 _ k164 info_rank rfl (by simp [Value.oneCell']) ?_
            have t0 : TBx w (u4.setRow gn1 #[.int .u64 x1, .int .u64 x2, .int .u64 x3]) ga gb #[.int .u8 a0, .int .u8 a1, .int .u8 a2] #[.int .u8 b0, .int .u8 b1, .int .u8 b2] := s4.far hge94
            have k9s : Blk (u4.setRow gn1 #[.int .u64 x1, .int .u64 x2, .int .u64 x3]) gn1 25 #[.int .u64 x1, .int .u64 x2, .int .u64 x3] := Blk.rowT k164
            have k10s : Blk (u4.setRow gn1 #[.int .u64 x1, .int .u64 x2, .int .u64 x3]) gn3 25 #[.int .u64 0, .int .u64 0, .int .u64 0] := (setRow_other u4 gn1 gn3 #[.int .u64 x1, .int .u64 x2, .int .u64 x3] (by omega)).trans k174
            refine hK.out _ _ t0 (fun s7 => ?_)
            clear hK K
            simp only [Act.put, List.setIfInBounds_toArray, List.set_cons_zero, List.set_cons_succ]
            refine wpAnyH_ready (rs := [19]) (by kernel_rfl) (by simp) ?_
            refine AllReadyH.cons rfl (fun K hK => ?_) AllReadyH.nil
            rw [if_pos (by rfl)]
            refine wp_store_row 25 (.tmp 10) (.tmp 28) rfl gn3 #[.int .u64 y1, .int .u64 y2, .int .u64 y3] rfl rfl 25 _ k10s info_rank rfl (by simp [Value.oneCell']) ?_
            have t1 : TBx w ((u4.setRow gn1 #[.int .u64 x1, .int .u64 x2, .int .u64 x3]).setRow gn3 #[.int .u64 y1, .int .u64 y2, .int .u64 y3]) ga gb #[.int .u8 a0, .int .u8 a1, .int .u8 a2] #[.int .u8 b0, .int .u8 b1, .int .u8 b2] := t0.far hge104
            have k9t : Blk ((u4.setRow gn1 #[.int .u64 x1, .int .u64 x2, .int .u64 x3]).setRow gn3 #[.int .u64 y1, .int .u64 y2, .int .u64 y3]) gn1 25 #[.int .u64 x1, .int .u64 x2, .int .u64 x3] := (setRow_other (u4.setRow gn1 #[.int .u64 x1, .int .u64 x2, .int .u64 x3]) gn3 gn1 #[.int .u64 y1, .int .u64 y2, .int .u64 y3] (by omega)).trans k9s
            have k10t : Blk ((u4.setRow gn1 #[.int .u64 x1, .int .u64 x2, .int .u64 x3]).setRow gn3 #[.int .u64 y1, .int .u64 y2, .int .u64 y3]) gn3 25 #[.int .u64 y1, .int .u64 y2, .int .u64 y3] := Blk.rowT k10s
            refine hK.out _ _ t1 (fun s8 => ?_)
            clear hK K
            simp only [Act.put, List.setIfInBounds_toArray, List.set_cons_zero, List.set_cons_succ]
            refine wpAnyH_done (by kernel_rfl) ?_ _
            go_wp2_with fail
            go_meet
            exact ⟨gn1, gn3, rfl, rfl, ⟨t1.a, t1.b, k9t, k10t, t1.bel⟩⟩
      · skip
        go_simp
        have bb2 : Below u1.heap.size u1 (u1.alloc (.cells #[.int .u64 0, .int .u64 0, .int .u64 0] 25)) := (Below.refl _ _).alloc (Nat.le_refl _) _
        have kn2 : Blk (u1.alloc (.cells #[.int .u64 0, .int .u64 0, .int .u64 0] 25)) u1.heap.size 25 #[.int .u64 0, .int .u64 0, .int .u64 0] := Blk.new _ _ _
        have s2 := s1.below bb2
        refine hK.out _ _ s2 (fun _ => ?_)
        clear hK K
        obtain ⟨u2, hu2⟩ : ∃ u, u = u1.alloc (.cells #[.int .u64 0, .int .u64 0, .int .u64 0] 25) := ⟨_, rfl⟩
        obtain ⟨gn2, hgn2⟩ : ∃ g, g = u1.heap.size := ⟨_, rfl⟩
        have k162 := k161.below bb2 k161.lt
        have hz2 := s1.sz
        rw [← hu2] at s2 kn2 k162
        rw [← hgn2] at kn2 hz2 ⊢
        rw [← hu2]
        have hge102 : w.heap.size + 1 < gn2 := hz2
        have k172 := kn2
        have hge92 := hge91
        have hne2 : gn1 ≠ gn2 := by have := k161.lt; omega
        clear hu2 hgn2 kn2 bb2
        refine wpAnyH_ready (rs := [7]) (by kernel_rfl) (by simp) ?_
        refine AllReadyH.cons rfl (fun K hK => ?_) AllReadyH.nil
        · skip
          go_simp
          refine (RX.out u2).mono ?_
          rintro e u3 ⟨rfl, bb3⟩
          have s3 := s2.below bb3
          refine hK.out _ _ s3 (fun _ => ?_)
          clear hK K
          have k163 := k162.below bb3 k162.lt
          have k173 := k172.below bb3 k172.lt
          have hge93 := hge92
          have hge103 := hge102
          have hsz3 : w.heap.size + 1 < u3.heap.size := s3.sz
          have hne3 := hne2
          have hlt93 := k163.lt
          have hlt103 := k173.lt
          refine wpAnyH_ready (rs := [15]) (by kernel_rfl) (by simp) ?_
          refine AllReadyH.cons rfl (fun K hK => ?_) AllReadyH.nil
          · skip
            go_simp
            refine (RY.out u3).mono ?_
            rintro e u4 ⟨rfl, bb4⟩
            have s4 := s3.below bb4
            refine hK.out _ _ s4 (fun _ => ?_)
            clear hK K
            have k164 := k163.below bb4 k163.lt
            have k174 := k173.below bb4 k173.lt
            have hge94 := hge93
            have hge104 := hge103
            have hsz4 : w.heap.size + 1 < u4.heap.size := s4.sz
            have hne4 := hne3
            have hlt94 := k164.lt
            have hlt104 := k174.lt
            refine wpAnyH_ready (rs := [18]) (by kernel_rfl) (by simp) ?_
            refine AllReadyH.cons rfl (fun K hK => ?_) AllReadyH.nil
            rw [if_pos (by rfl)]
            refine wp_store_row 25 (.tmp 9) (.tmp 20) rfl gn1 #[.int .u64 x1, .int .u64 x2, .int .u64 x3] rfl rfl 25 _ k164 info_rank rfl (by simp [Value.oneCell']) ?_
            have t0 : TBx w (u4.setRow gn1 #[.int .u64 x1, .int .u64 x2, .int .u64 x3]) ga gb #[.int .u8 a0, .int .u8 a1, .int .u8 a2] #[.int .u8 b0, .int .u8 b1, .int .u8 b2] := s4.far hge94
            have k9s : Blk (u4.setRow gn1 #[.int .u64 x1, .int .u64 x2, .int .u64 x3]) gn1 25 #[.int .u64 x1, .int .u64 x2, .int .u64 x3] := Blk.rowT k164
            have k10s : Blk (u4.setRow gn1 #[.int .u64 x1, .int .u64 x2, .int .u64 x3]) gn2 25 #[.int .u64 0, .int .u64 0, .int .u64 0] := (setRow_other u4 gn1 gn2 #[.int .u64 x1, .int .u64 x2, .int .u64 x3] (by omega)).trans k174
            refine hK.out _ _ t0 (fun s7 => ?_)
            clear hK K
            simp only [Act.put, List.setIfInBounds_toArray, List.set_cons_zero, List.set_cons_succ]
            refine wpAnyH_ready (rs := [19]) (by kernel_rfl) (by simp) ?_
            refine AllReadyH.cons rfl (fun K hK => ?_) AllReadyH.nil
            rw [if_pos (by rfl)]
            refine wp_store_row 25 (.tmp 10) (.tmp 28) rfl gn2 #[.int .u64 y1, .int .u64 y2, .int .u64 y3] rfl rfl 25 _ k10s info_rank rfl (by simp [Value.oneCell']) ?_
            have t1 : TBx w ((u4.setRow gn1 #[.int .u64 x1, .int .u64 x2, .int .u64 x3]).setRow gn2 #[.int .u64 y1, .int .u64 y2, .int .u64 y3]) ga gb #[.int .u8 a0, .int .u8 a1, .int .u8 a2] #[.int .u8 b0, .int .u8 b1, .int .u8 b2] := t0.far hge104
            have k9t : Blk ((u4.setRow gn1 #[.int .u64 x1, .int .u64 x2, .int .u64 x3]).setRow gn2 #[.int .u64 y1, .int .u64 y2, .int .u64 y3]) gn1 25 #[.int .u64 x1, .int .u64 x2, .int .u64 x3] := (setRow_other (u4.setRow gn1 #[.int .u64 x1, .int .u64 x2, .int .u64 x3]) gn2 gn1 #[.int .u64 y1, .int .u64 y2, .int .u64 y3] (by omega)).trans k9s
            have k10t : Blk ((u4.setRow gn1 #[.int .u64 x1, .int .u64 x2, .int .u64 x3]).setRow gn2 #[.int .u64 y1, .int .u64 y2, .int .u64 y3]) gn2 25 #[.int .u64 y1, .int .u64 y2, .int .u64 y3] := Blk.rowT k10s
            refine hK.out _ _ t1 (fun s8 => ?_)
            clear hK K
            simp only [Act.put, List.setIfInBounds_toArray, List.set_cons_zero, List.set_cons_succ]
            refine wpAnyH_done (by kernel_rfl) ?_ _
            go_wp2_with fail
            go_meet
            exact ⟨gn1, gn2, rfl, rfl, ⟨t1.a, t1.b, k9t, k10t, t1.bel⟩⟩
    · skip
      go_simp
      have bb1 : Below u0.heap.size u0 (u0.alloc (.cells #[.int .u64 0, .int .u64 0, .int .u64 0] 25)) := (Below.refl _ _).alloc (Nat.le_refl _) _
      have kn1 : Blk (u0.alloc (.cells #[.int .u64 0, .int .u64 0, .int .u64 0] 25)) u0.heap.size 25 #[.int .u64 0, .int .u64 0, .int .u64 0] := Blk.new _ _ _
      have s1 := s0.below bb1
      refine hK.out _ _ s1 (fun _ => ?_)
      clear hK K
      obtain ⟨u1, hu1⟩ : ∃ u, u = u0.alloc (.cells #[.int .u64 0, .int .u64 0, .int .u64 0] 25) := ⟨_, rfl⟩
      obtain ⟨gn1, hgn1⟩ : ∃ g, g = u0.heap.size := ⟨_, rfl⟩
      have hz1 := s0.sz
      rw [← hu1] at s1 kn1
      rw [← hgn1] at kn1 hz1 ⊢
      rw [← hu1]
      have hge101 : w.heap.size + 1 < gn1 := hz1
      have k171 := kn1
      clear hu1 hgn1 kn1 bb1
      refine wpAnyH_ready (rs := [7, 16]) (by kernel_rfl) (by simp) ?_
      refine AllReadyH.cons rfl (fun K hK => ?_) (AllReadyH.cons rfl (fun K hK => ?_) AllReadyH.nil)
      · skip
        go_simp
        refine (RX.out u1).mono ?_
        rintro e u2 ⟨rfl, bb2⟩
        have s2 := s1.below bb2
        refine hK.out _ _ s2 (fun _ => ?_)
        clear hK K
        have k172 := k171.below bb2 k171.lt
        have hge102 := hge101
        have hsz2 : w.heap.size + 1 < u2.heap.size := s2.sz
        have hlt102 := k172.lt
        refine wpAnyH_ready (rs := [15, 16]) (by kernel_rfl) (by simp) ?_
        refine AllReadyH.cons rfl (fun K hK => ?_) (AllReadyH.cons rfl (fun K hK => ?_) AllReadyH.nil)
        · skip
          go_simp
          refine (RY.out u2).mono ?_
          rintro e u3 ⟨rfl, bb3⟩
          have s3 := s2.below bb3
          refine hK.out _ _ s3 (fun _ => ?_)
          clear hK K
          have k173 := k172.below bb3 k172.lt
          have hge103 := hge102
          have hsz3 : w.heap.size + 1 < u3.heap.size := s3.sz
          have hlt103 := k173.lt
          refine wpAnyH_ready (rs := [16]) (by kernel_rfl) (by simp) ?_
          refine AllReadyH.cons rfl (fun K hK => ?_) AllReadyH.nil
          · skip
            go_simp
            have bb4 : Below u3.heap.size u3 (u3.alloc (.cells #[.int .u64 0, .int .u64 0, .int .u64 0] 25)) := (Below.refl _ _).alloc (Nat.le_refl _) _
            have kn4 : Blk (u3.alloc (.cells #[.int .u64 0, .int .u64 0, .int .u64 0] 25)) u3.heap.size 25 #[.int .u64 0, .int .u64 0, .int .u64 0] := Blk.new _ _ _
            have s4 := s3.below bb4
            refine hK.out _ _ s4 (fun _ => ?_)
            clear hK K
            obtain ⟨u4, hu4⟩ : ∃ u, u = u3.alloc (.cells #[.int .u64 0, .int .u64 0, .int .u64 0] 25) := ⟨_, rfl⟩
            obtain ⟨gn4, hgn4⟩ : ∃ g, g = u3.heap.size := ⟨_, rfl⟩
            have k174 := k173.below bb4 k173.lt
            have hz4 := s3.sz
            rw [← hu4] at s4 kn4 k174
            rw [← hgn4] at kn4 hz4 ⊢
            rw [← hu4]
            have hge94 : w.heap.size + 1 < gn4 := hz4
            have k164 := kn4
            have hge104 := hge103
            have hne4 : gn1 ≠ gn4 := by have := k173.lt; omega
            clear hu4 hgn4 kn4 bb4
            refine wpAnyH_ready (rs := [18]) (by kernel_rfl) (by simp) ?_
            refine AllReadyH.cons rfl (fun K hK => ?_) AllReadyH.nil
            rw [if_pos (by rfl)]
            refine wp_store_row 25 (.tmp 9) (.tmp 20) rfl gn4 #[.int .u64 x1, .int .u64 x2, .int .u64 x3] rfl rfl 25 _ k164 info_rank rfl (by simp [Value.oneCell']) ?_
            have t0 : TBx w (u4.setRow gn4 #[.int .u64 x1, .int .u64 x2, .int .u64 x3]) ga gb #[.int .u8 a0, .int .u8 a1, .int .u8 a2] #[.int .u8 b0, .int .u8 b1, .int .u8 b2] := s4.far hge94
            have k9s : Blk (u4.setRow gn4 #[.int .u64 x1, .int .u64 x2, .int .u64 x3]) gn4 25 #[.int .u64 x1, .int .u64 x2, .int .u64 x3] := Blk.rowT k164
            have k10s : Blk (u4.setRow gn4 #[.int .u64 x1, .int .u64 x2, .int .u64 x3]) gn1 25 #[.int .u64 0, .int .u64 0, .int .u64 0] := (setRow_other u4 gn4 gn1 #[.int .u64 x1, .int .u64 x2, .int .u64 x3] (by omega)).trans k174
            refine hK.out _ _ t0 (fun s7 => ?_)
            clear hK K
            simp only [Act.put, List.setIfInBounds_toArray, List.set_cons_zero, List.set_cons_succ]
            refine wpAnyH_ready (rs := [19]) (by kernel_rfl) (by simp) ?_
            refine AllReadyH.cons rfl (fun K hK => ?_) AllReadyH.nil
            rw [if_pos (by rfl)]
            refine wp_store_row 25 (.tmp 10) (.tmp 28) rfl gn1 #[.int .u64 y1, .int .u64 y2, .int .u64 y3] rfl rfl 25 _ k10s info_rank rfl (by simp [Value.oneCell']) ?_
            have t1 : TBx w ((u4.setRow gn4 #[.int .u64 x1, .int .u64 x2, .int .u64 x3]).setRow gn1 #[.int .u64 y1, .int .u64 y2, .int .u64 y3]) ga gb #[.int .u8 a0, .int .u8 a1, .int .u8 a2] #[.int .u8 b0, .int .u8 b1, .int .u8 b2] := t0.far hge104
            have k9t : Blk ((u4.setRow gn4 #[.int .u64 x1, .int .u64 x2, .int .u64 x3]).setRow gn1 #[.int .u64 y1, .int .u64 y2, .int .u64 y3]) gn4 25 #[.int .u64 x1, .int .u64 x2, .int .u64 x3] := (setRow_other (u4.setRow gn4 #[.int .u64 x1, .int .u64 x2, .int .u64 x3]) gn1 gn4 #[.int .u64 y1, .int .u64 y2, .int .u64 y3] (by omega)).trans k9s
            have k10t : Blk ((u4.setRow gn4 #[.int .u64 x1, .int .u64 x2, .int .u64 x3]).setRow gn1 #[.int .u64 y1, .int .u64 y2, .int .u64 y3]) gn1 25 #[.int .u64 y1, .int .u64 y2, .int .u64 y3] := Blk.rowT k10s
            refine hK.out _ _ t1 (fun s8 => ?_)
            clear hK K
            simp only [Act.put, List.setIfInBounds_toArray, List.set_cons_zero, List.set_cons_succ]
            refine wpAnyH_done (by kernel_rfl) ?_ _
            go_wp2_with fail
            go_meet
            exact ⟨gn4, gn1, rfl, rfl, ⟨t1.a, t1.b, k9t, k10t, t1.bel⟩⟩
        · skip
          go_simp
          have bb3 : Below u2.heap.size u2 (u2.alloc (.cells #[.int .u64 0, .int .u64 0, .int .u64 0] 25)) := (Below.refl _ _).alloc (Nat.le_refl _) _
          have kn3 : Blk (u2.alloc (.cells #[.int .u64 0, .int .u64 0, .int .u64 0] 25)) u2.heap.size 25 #[.int .u64 0, .int .u64 0, .int .u64 0] := Blk.new _ _ _
          have s3 := s2.below bb3
          refine hK.out _ _ s3 (fun _ => ?_)
          clear hK K
          obtain ⟨u3, hu3⟩ : ∃ u, u = u2.alloc (.cells #[.int .u64 0, .int .u64 0, .int .u64 0] 25) := ⟨_, rfl⟩
          obtain ⟨gn3, hgn3⟩ : ∃ g, g = u2.heap.size := ⟨_, rfl⟩
          have k173 := k172.below bb3 k172.lt
          have hz3 := s2.sz
          rw [← hu3] at s3 kn3 k173
          rw [← hgn3] at kn3 hz3 ⊢
          rw [← hu3]
          have hge93 : w.heap.size + 1 < gn3 := hz3
          have k163 := kn3
          have hge103 := hge102
          have hne3 : gn1 ≠ gn3 := by have := k172.lt; omega
          clear hu3 hgn3 kn3 bb3
          refine wpAnyH_ready (rs := [15]) (by kernel_rfl) (by simp) ?_
          refine AllReadyH.cons rfl (fun K hK => ?_) AllReadyH.nil
          · skip
            go_simp
            refine (RY.out u3).mono ?_
            rintro e u4 ⟨rfl, bb4⟩
            have s4 := s3.below bb4
            refine hK.out _ _ s4 (fun _ => ?_)
            clear hK K
            have k174 := k173.below bb4 k173.lt
            have k164 := k163.below bb4 k163.lt
            have hge94 := hge93
            have hge104 := hge103
            have hsz4 : w.heap.size + 1 < u4.heap.size := s4.sz
            have hne4 := hne3
            have hlt94 := k164.lt
            have hlt104 := k174.lt
            refine wpAnyH_ready (rs := [18]) (by kernel_rfl) (by simp) ?_
            refine AllReadyH.cons rfl (fun K hK => ?_) AllReadyH.nil
            rw [if_pos (by rfl)]
            refine wp_store_row 25 (.tmp 9) (.tmp 20) rfl gn3 #[.int .u64 x1, .int .u64 x2, .int .u64 x3] rfl rfl 25 _ k164 info_rank rfl (by simp [Value.oneCell']) ?_
            have t0 : TBx w (u4.setRow gn3 #[.int .u64 x1, .int .u64 x2, .int .u64 x3]) ga gb #[.int .u8 a0, .int .u8 a1, .int .u8 a2] #[.int .u8 b0, .int .u8 b1, .int .u8 b2] := s4.far hge94
            have k9s : Blk (u4.setRow gn3 #[.int .u64 x1, .int .u64 x2, .int .u64 x3]) gn3 25 #[.int .u64 x1, .int .u64 x2, .int .u64 x3] := Blk.rowT k164
            have k10s : Blk (u4.setRow gn3 #[.int .u64 x1, .int .u64 x2, .int .u64 x3]) gn1 25 #[.int .u64 0, .int .u64 0, .int .u64 0] := (setRow_other u4 gn3 gn1 #[.int .u64 x1, .int .u64 x2, .int .u64 x3] (by omega)).trans k174
            refine hK.out _ _ t0 (fun s7 => ?_)
            clear hK K
            simp only [Act.put, List.setIfInBounds_toArray, List.set_cons_zero, List.set_cons_succ]
            refine wpAnyH_ready (rs := [19]) (by kernel_rfl) (by simp) ?_
            refine AllReadyH.cons rfl (fun K hK => ?_) AllReadyH.nil
            rw [if_pos (by rfl)]
            refine wp_store_row 25 (.tmp 10) (.tmp 28) rfl gn1 #[.int .u64 y1, .int .u64 y2, .int .u64 y3] rfl rfl 25 _ k10s info_rank rfl (by simp [Value.oneCell']) ?_
            have t1 : TBx w ((u4.setRow gn3 #[.int .u64 x1, .int .u64 x2, .int .u64 x3]).setRow gn1 #[.int .u64 y1, .int .u64 y2, .int .u64 y3]) ga gb #[.int .u8 a0, .int .u8 a1, .int .u8 a2] #[.int .u8 b0, .int .u8 b1, .int .u8 b2] := t0.far hge104
            have k9t : Blk ((u4.setRow gn3 #[.int .u64 x1, .int .u64 x2, .int .u64 x3]).setRow gn1 #[.int .u64 y1, .int .u64 y2, .int .u64 y3]) gn3 25 #[.int .u64 x1, .int .u64 x2, .int .u64 x3] := (setRow_other (u4.setRow gn3 #[.int .u64 x1, .int .u64 x2, .int .u64 x3]) gn1 gn3 #[.int .u64 y1, .int .u64 y2, .int .u64 y3] (by omega)).trans k9s
            have k10t : Blk ((u4.setRow gn3 #[.int .u64 x1, .int .u64 x2, .int .u64 x3]).setRow gn1 #[.int .u64 y1, .int .u64 y2, .int .u64 y3]) gn1 25 #[.int .u64 y1, .int .u64 y2, .int .u64 y3] := Blk.rowT k10s
            refine hK.out _ _ t1 (fun s8 => ?_)
            clear hK K
            simp only [Act.put, List.setIfInBounds_toArray, List.set_cons_zero, List.set_cons_succ]
            refine wpAnyH_done (by kernel_rfl) ?_ _
            go_wp2_with fail
            go_meet
            exact ⟨gn3, gn1, rfl, rfl, ⟨t1.a, t1.b, k9t, k10t, t1.bel⟩⟩
      · skip
        go_simp
        have bb2 : Below u1.heap.size u1 (u1.alloc (.cells #[.int .u64 0, .int .u64 0, .int .u64 0] 25)) := (Below.refl _ _).alloc (Nat.le_refl _) _
        have kn2 : Blk (u1.alloc (.cells #[.int .u64 0, .int .u64 0, .int .u64 0] 25)) u1.heap.size 25 #[.int .u64 0, .int .u64 0, .int .u64 0] := Blk.new _ _ _
        have s2 := s1.below bb2
        refine hK.out _ _ s2 (fun _ => ?_)
        clear hK K
        obtain ⟨u2, hu2⟩ : ∃ u, u = u1.alloc (.cells #[.int .u64 0, .int .u64 0, .int .u64 0] 25) := ⟨_, rfl⟩
        obtain ⟨gn2, hgn2⟩ : ∃ g, g = u1.heap.size := ⟨_, rfl⟩
        have k172 := k171.below bb2 k171.lt
        have hz2 := s1.sz
        rw [← hu2] at s2 kn2 k172
        rw [← hgn2] at kn2 hz2 ⊢
        rw [← hu2]
        have hge92 : w.heap.size + 1 < gn2 := hz2
        have k162 := kn2
        have hge102 := hge101
        have hne2 : gn1 ≠ gn2 := by have := k171.lt; omega
        clear hu2 hgn2 kn2 bb2
        refine wpAnyH_ready (rs := [7]) (by kernel_rfl) (by simp) ?_
        refine AllReadyH.cons rfl (fun K hK => ?_) AllReadyH.nil
        · skip
          go_simp
          refine (RX.out u2).mono ?_
          rintro e u3 ⟨rfl, bb3⟩
          have s3 := s2.below bb3
          refine hK.out _ _ s3 (fun _ => ?_)
          clear hK K
          have k173 := k172.below bb3 k172.lt
          have k163 := k162.below bb3 k162.lt
          have hge93 := hge92
          have hge103 := hge102
          have hsz3 : w.heap.size + 1 < u3.heap.size := s3.sz
          have hne3 := hne2
          have hlt93 := k163.lt
          have hlt103 := k173.lt
          refine wpAnyH_ready (rs := [15]) (by kernel_rfl) (by simp) ?_
          refine AllReadyH.cons rfl (fun K hK => ?_) AllReadyH.nil
          · skip
            go_simp
            refine (RY.out u3).mono ?_
            rintro e u4 ⟨rfl, bb4⟩
            have s4 := s3.below bb4
            refine hK.out _ _ s4 (fun _ => ?_)
            clear hK K
            have k174 := k173.below bb4 k173.lt
            have k164 := k163.below bb4 k163.lt
            have hge94 := hge93
            have hge104 := hge103
            have hsz4 : w.heap.size + 1 < u4.heap.size := s4.sz
            have hne4 := hne3
            have hlt94 := k164.lt
            have hlt104 := k174.lt
            refine wpAnyH_ready (rs := [18]) (by kernel_rfl) (by simp) ?_
            refine AllReadyH.cons rfl (fun K hK => ?_) AllReadyH.nil
            rw [if_pos (by rfl)]
            refine wp_store_row 25 (.tmp 9) (.tmp 20) rfl gn2 #[.int .u64 x1, .int .u64 x2, .int .u64 x3] rfl rfl 25 _ k164 info_rank rfl (by simp [Value.oneCell']) ?_
            have t0 : TBx w (u4.setRow gn2 #[.int .u64 x1, .int .u64 x2, .int .u64 x3]) ga gb #[.int .u8 a0, .int .u8 a1, .int .u8 a2] #[.int .u8 b0, .int .u8 b1, .int .u8 b2] := s4.far hge94
            have k9s : Blk (u4.setRow gn2 #[.int .u64 x1, .int .u64 x2, .int .u64 x3]) gn2 25 #[.int .u64 x1, .int .u64 x2, .int .u64 x3] := Blk.rowT k164
            have k10s : Blk (u4.setRow gn2 #[.int .u64 x1, .int .u64 x2, .int .u64 x3]) gn1 25 #[.int .u64 0, .int .u64 0, .int .u64 0] := (setRow_other u4 gn2 gn1 #[.int .u64 x1, .int .u64 x2, .int .u64 x3] (by omega)).trans k174
            refine hK.out _ _ t0 (fun s7 => ?_)
            clear hK K
            simp only [Act.put, List.setIfInBounds_toArray, List.set_cons_zero, List.set_cons_succ]
            refine wpAnyH_ready (rs := [19]) (by kernel_rfl) (by simp) ?_
            refine AllReadyH.cons rfl (fun K hK => ?_) AllReadyH.nil
            rw [if_pos (by rfl)]
            refine wp_store_row 25 (.tmp 10) (.tmp 28) rfl gn1 #[.int .u64 y1, .int .u64 y2, .int .u64 y3] rfl rfl 25 _ k10s info_rank rfl (by simp [Value.oneCell']) ?_
            have t1 : TBx w ((u4.setRow gn2 #[.int .u64 x1, .int .u64 x2, .int .u64 x3]).setRow gn1 #[.int .u64 y1, .int .u64 y2, .int .u64 y3]) ga gb #[.int .u8 a0, .int .u8 a1, .int .u8 a2] #[.int .u8 b0, .int .u8 b1, .int .u8 b2] := t0.far hge104
            have k9t : Blk ((u4.setRow gn2 #[.int .u64 x1, .int .u64 x2, .int .u64 x3]).setRow gn1 #[.int .u64 y1, .int .u64 y2, .int .u64 y3]) gn2 25 #[.int .u64 x1, .int .u64 x2, .int .u64 x3] := (setRow_other (u4.setRow gn2 #[.int .u64 x1, .int .u64 x2, .int .u64 x3]) gn1 gn2 #[.int .u64 y1, .int .u64 y2, .int .u64 y3] (by omega)).trans k9s
            have k10t : Blk ((u4.setRow gn2 #[.int .u64 x1, .int .u64 x2, .int .u64 x3]).setRow gn1 #[.int .u64 y1, .int .u64 y2, .int .u64 y3]) gn1 25 #[.int .u64 y1, .int .u64 y2, .int .u64 y3] := Blk.rowT k10s
            refine hK.out _ _ t1 (fun s8 => ?_)
            clear hK K
            simp only [Act.put, List.setIfInBounds_toArray, List.set_cons_zero, List.set_cons_succ]
            refine wpAnyH_done (by kernel_rfl) ?_ _
            go_wp2_with fail
            go_meet
            exact ⟨gn2, gn1, rfl, rfl, ⟨t1.a, t1.b, k9t, k10t, t1.bel⟩⟩
  case rest =>
  obtain ⟨g9, g10, rfl, rfl, T0⟩ := hcut
  go_upto_region 4 with (fail)
  rcases HTT.out with ⟨rfl, rfl⟩ | ⟨rfl, rfl⟩ | ⟨rfl, rfl, rfl, rfl, rfl⟩
  · skip
    obtain ⟨u0, hu0⟩ : ∃ u, u = wc.drew := ⟨_, rfl⟩
    have s := T0.out.drew
    rw [← hu0] at s
    refine wp_region_held_drew (S := fun w' => T4 w w' ga gb g9 g10 #[.int .u8 a0, .int .u8 a1, .int .u8 a2] #[.int .u8 b0, .int .u8 b1, .int .u8 b2] #[.int .u64 x1, .int .u64 x2, .int .u64 x3] #[.int .u64 y1, .int .u64 y2, .int .u64 y3]) (by kernel_rfl) (by rw [← hu0]; exact s) (fun s0 => ?_)
    rw [← hu0] at s0 ⊢
    clear hu0 s
    refine wpAnyH_take (i := 0) (oi := ⟨_, _, _, _, _, _⟩) rfl (by kernel_rfl) (by kernel_rfl) (by kernel_rfl) (fun _ _ _ h => h) (yieldsIf_load_mid (by rfl) 25 (.tmp 9) rfl g9 0 rfl [.int .u64 x1, .int .u64 x2, .int .u64 x3] _ (fun w' hS => range_blkT hS.p) Try.underlying25 rfl info_rank) s0 ?_
    simp only [Act.put, List.setIfInBounds_toArray, List.set_cons_zero, List.set_cons_succ]
    refine wpAnyH_take (i := 1) (oi := ⟨_, _, _, _, _, _⟩) (v := .pointer (some ⟨ga, 0, none⟩)) rfl (by kernel_rfl) (by kernel_rfl) (by kernel_rfl) (fun _ _ _ h => h) (Or.inl ⟨by rfl, fun w' hS => by go_simp⟩) s0 ?_
    simp only [Act.put, List.setIfInBounds_toArray, List.set_cons_zero, List.set_cons_succ]
    refine wpAnyH_take (i := 2) (oi := ⟨_, _, _, _, _, _⟩) (v := .int .u8 a0) rfl (by kernel_rfl) (by kernel_rfl) (by kernel_rfl) (fun _ _ _ h => h) (Or.inl ⟨by rfl, fun w' hS => by have cc := hS.a.cell 0; simp only [List.getElem?_toArray, List.getElem?_cons_zero, List.getElem?_cons_succ] at cc; have zz := hS.a.lt; go_simp⟩) s0 ?_
    simp only [Act.put, List.setIfInBounds_toArray, List.set_cons_zero, List.set_cons_succ]
    refine wpAnyH_take (i := 3) (oi := ⟨_, _, _, _, _, _⟩) (v := .pointer (some ⟨ga, 1, none⟩)) rfl (by kernel_rfl) (by kernel_rfl) (by kernel_rfl) (fun _ _ _ h => h) (Or.inl ⟨by rfl, fun w' hS => by go_simp⟩) s0 ?_
    simp only [Act.put, List.setIfInBounds_toArray, List.set_cons_zero, List.set_cons_succ]
    refine wpAnyH_take (i := 4) (oi := ⟨_, _, _, _, _, _⟩) (v := .int .u8 a1) rfl (by kernel_rfl) (by kernel_rfl) (by kernel_rfl) (fun _ _ _ h => h) (Or.inl ⟨by rfl, fun w' hS => by have cc := hS.a.cell 1; simp only [List.getElem?_toArray, List.getElem?_cons_zero, List.getElem?_cons_succ] at cc; have zz := hS.a.lt; go_simp⟩) s0 ?_
    simp only [Act.put, List.setIfInBounds_toArray, List.set_cons_zero, List.set_cons_succ]
    refine wpAnyH_take (i := 5) (oi := ⟨_, _, _, _, _, _⟩) (v := .pointer (some ⟨ga, 2, none⟩)) rfl (by kernel_rfl) (by kernel_rfl) (by kernel_rfl) (fun _ _ _ h => h) (Or.inl ⟨by rfl, fun w' hS => by go_simp⟩) s0 ?_
    simp only [Act.put, List.setIfInBounds_toArray, List.set_cons_zero, List.set_cons_succ]
    refine wpAnyH_take (i := 6) (oi := ⟨_, _, _, _, _, _⟩) (v := .int .u8 a2) rfl (by kernel_rfl) (by kernel_rfl) (by kernel_rfl) (fun _ _ _ h => h) (Or.inl ⟨by rfl, fun w' hS => by have cc := hS.a.cell 2; simp only [List.getElem?_toArray, List.getElem?_cons_zero, List.getElem?_cons_succ] at cc; have zz := hS.a.lt; go_simp⟩) s0 ?_
    simp only [Act.put, List.setIfInBounds_toArray, List.set_cons_zero, List.set_cons_succ]
    refine wpAnyH_take (i := 7) (oi := ⟨_, _, _, _, _, _⟩) (v := .int .u64 g) rfl (by kernel_rfl) (by kernel_rfl) (by kernel_rfl) (fun _ _ _ h => h) (Or.inl ⟨by rfl, fun w' hS => by go_simp⟩) s0 ?_
    simp only [Act.put, List.setIfInBounds_toArray, List.set_cons_zero, List.set_cons_succ]
    refine wpAnyH_ready (rs := [8]) (by kernel_rfl) (by simp) ?_
    refine AllReadyH.cons rfl (fun K hK => ?_) AllReadyH.nil
    go_simp
    refine (RR.out _).mono ?_
    rintro e v1 ⟨rfl, q1⟩
    refine hK.out _ _ (s0.below q1) (fun p1 => ?_)
    clear hK K s0 q1
    refine wpAnyH_take (i := 9) (oi := ⟨_, _, _, _, _, _⟩) (v := .bool false) rfl (by kernel_rfl) (by kernel_rfl) (by kernel_rfl) (fun _ _ _ h => h) (Or.inl ⟨by rfl, fun w' hS => by have e3 := E3.out w'; go_simp⟩) p1 ?_
    simp only [Act.put, List.setIfInBounds_toArray, List.set_cons_zero, List.set_cons_succ]
    refine wpAnyH_take (i := 10) (oi := ⟨_, _, _, _, _, _⟩) (v := .bool false) rfl (by kernel_rfl) (by kernel_rfl) (by kernel_rfl) (fun _ _ _ h => h) (Or.inl ⟨by rfl, fun w' hS => by go_simp⟩) p1 ?_
    simp only [Act.put, List.setIfInBounds_toArray, List.set_cons_zero, List.set_cons_succ]
    refine wpAnyH_take (i := 11) (oi := ⟨_, _, _, _, _, _⟩) rfl (by kernel_rfl) (by kernel_rfl) (by kernel_rfl) (fun _ _ _ h => h) (yieldsIf_load_mid (by rfl) 25 (.tmp 9) rfl g9 0 rfl [.int .u64 x1, .int .u64 x2, .int .u64 x3] _ (fun w' hS => range_blkT hS.p) Try.underlying25 rfl info_rank) p1 ?_
    simp only [Act.put, List.setIfInBounds_toArray, List.set_cons_zero, List.set_cons_succ]
    refine wpAnyH_take (i := 12) (oi := ⟨_, _, _, _, _, _⟩) rfl (by kernel_rfl) (by kernel_rfl) (by kernel_rfl) (fun _ _ _ h => h) (yieldsIf_load_mid (by rfl) 25 (.tmp 10) rfl g10 0 rfl [.int .u64 y1, .int .u64 y2, .int .u64 y3] _ (fun w' hS => range_blkT hS.q) Try.underlying25 rfl info_rank) p1 ?_
    simp only [Act.put, List.setIfInBounds_toArray, List.set_cons_zero, List.set_cons_succ]
    refine wpAnyH_take (i := 14) (oi := ⟨_, _, _, _, _, _⟩) rfl (by kernel_rfl) (by kernel_rfl) (by kernel_rfl) (fun _ _ _ h => h) (yieldsIf_load_mid (by rfl) 25 (.tmp 9) rfl g9 0 rfl [.int .u64 x1, .int .u64 x2, .int .u64 x3] _ (fun w' hS => range_blkT hS.p) Try.underlying25 rfl info_rank) p1 ?_
    simp only [Act.put, List.setIfInBounds_toArray, List.set_cons_zero, List.set_cons_succ]
    refine wpAnyH_take (i := 15) (oi := ⟨_, _, _, _, _, _⟩) rfl (by kernel_rfl) (by kernel_rfl) (by kernel_rfl) (fun _ _ _ h => h) (yieldsIf_load_mid (by rfl) 25 (.tmp 10) rfl g10 0 rfl [.int .u64 y1, .int .u64 y2, .int .u64 y3] _ (fun w' hS => range_blkT hS.q) Try.underlying25 rfl info_rank) p1 ?_
    simp only [Act.put, List.setIfInBounds_toArray, List.set_cons_zero, List.set_cons_succ]
    refine wpAnyH_ready (rs := [13]) (by kernel_rfl) (by simp) ?_
    refine AllReadyH.cons rfl (fun K hK => ?_) AllReadyH.nil
    go_simp
    refine (L1.out _).mono ?_
    rintro e v2 ⟨rfl, q2⟩
    refine hK.out _ _ (p1.below q2) (fun p2 => ?_)
    clear hK K p1 q2
    refine wpAnyH_ready (rs := [16]) (by kernel_rfl) (by simp) ?_
    refine AllReadyH.cons rfl (fun K hK => ?_) AllReadyH.nil
    go_simp
    refine (L2.out _).mono ?_
    rintro e v3 ⟨rfl, q3⟩
    refine hK.out _ _ (p2.below q3) (fun p3 => ?_)
    clear hK K p2 q3
    refine wpAnyH_take (i := 17) (oi := ⟨_, _, _, _, _, _⟩) (v := .bool false) rfl (by kernel_rfl) (by kernel_rfl) (by kernel_rfl) (fun _ _ _ h => h) (Or.inl ⟨by rfl, fun w' hS => by go_simp⟩) p3 ?_
    simp only [Act.put, List.setIfInBounds_toArray, List.set_cons_zero, List.set_cons_succ]
    refine wpAnyH_take (i := 18) (oi := ⟨_, _, _, _, _, _⟩) (v := .bool false) rfl (by kernel_rfl) (by kernel_rfl) (by kernel_rfl) (fun _ _ _ h => h) (Or.inl ⟨by rfl, fun w' hS => by go_simp⟩) p3 ?_
    simp only [Act.put, List.setIfInBounds_toArray, List.set_cons_zero, List.set_cons_succ]
    refine wpAnyH_take (i := 19) (oi := ⟨_, _, _, _, _, _⟩) (v := .bool false) rfl (by kernel_rfl) (by kernel_rfl) (by kernel_rfl) (fun _ _ _ h => h) (Or.inl ⟨by rfl, fun w' hS => by go_simp⟩) p3 ?_
    simp only [Act.put, List.setIfInBounds_toArray, List.set_cons_zero, List.set_cons_succ]
    refine wpAnyH_take (i := 20) (oi := ⟨_, _, _, _, _, _⟩) rfl (by kernel_rfl) (by kernel_rfl) (by kernel_rfl) (fun _ _ _ h => h) (yieldsIf_load_mid (by rfl) 25 (.tmp 9) rfl g9 0 rfl [.int .u64 x1, .int .u64 x2, .int .u64 x3] _ (fun w' hS => range_blkT hS.p) Try.underlying25 rfl info_rank) p3 ?_
    simp only [Act.put, List.setIfInBounds_toArray, List.set_cons_zero, List.set_cons_succ]
    refine wpAnyH_take (i := 21) (oi := ⟨_, _, _, _, _, _⟩) rfl (by kernel_rfl) (by kernel_rfl) (by kernel_rfl) (fun _ _ _ h => h) (yieldsIf_load_mid (by rfl) 25 (.tmp 10) rfl g10 0 rfl [.int .u64 y1, .int .u64 y2, .int .u64 y3] _ (fun w' hS => range_blkT hS.q) Try.underlying25 rfl info_rank) p3 ?_
    simp only [Act.put, List.setIfInBounds_toArray, List.set_cons_zero, List.set_cons_succ]
    refine wpAnyH_ready (rs := [22]) (by kernel_rfl) (by simp) ?_
    refine AllReadyH.cons rfl (fun K hK => ?_) AllReadyH.nil
    go_simp
    refine (L1.out _).mono ?_
    rintro e v4 ⟨rfl, q4⟩
    refine hK.out _ _ (p3.below q4) (fun p4 => ?_)
    clear hK K p3 q4
    refine wpAnyH_take (i := 23) (oi := ⟨_, _, _, _, _, _⟩) (v := .bool true) rfl (by kernel_rfl) (by kernel_rfl) (by kernel_rfl) (fun _ _ _ h => h) (Or.inl ⟨by rfl, fun w' hS => by go_simp⟩) p4 ?_
    simp only [Act.put, List.setIfInBounds_toArray, List.set_cons_zero, List.set_cons_succ]
    refine wpAnyH_take (i := 24) (oi := ⟨_, _, _, _, _, _⟩) rfl (by kernel_rfl) (by kernel_rfl) (by kernel_rfl) (fun _ _ _ h => h) (yieldsIf_load_mid (by rfl) 25 (.tmp 10) rfl g10 0 rfl [.int .u64 y1, .int .u64 y2, .int .u64 y3] _ (fun w' hS => range_blkT hS.q) Try.underlying25 rfl info_rank) p4 ?_
    simp only [Act.put, List.setIfInBounds_toArray, List.set_cons_zero, List.set_cons_succ]
    refine wpAnyH_take (i := 25) (oi := ⟨_, _, _, _, _, _⟩) rfl (by kernel_rfl) (by kernel_rfl) (by kernel_rfl) (fun _ _ _ h => h) (yieldsIf_load_mid (by rfl) 25 (.tmp 9) rfl g9 0 rfl [.int .u64 x1, .int .u64 x2, .int .u64 x3] _ (fun w' hS => range_blkT hS.p) Try.underlying25 rfl info_rank) p4 ?_
    simp only [Act.put, List.setIfInBounds_toArray, List.set_cons_zero, List.set_cons_succ]
    refine wpAnyH_ready (rs := [26]) (by kernel_rfl) (by simp) ?_
    refine AllReadyH.cons rfl (fun K hK => ?_) AllReadyH.nil
    go_simp
    refine (L3.out _).mono ?_
    rintro e v5 ⟨rfl, q5⟩
    refine hK.out _ _ (p4.below q5) (fun p5 => ?_)
    clear hK K p4 q5
    refine wpAnyH_take (i := 27) (oi := ⟨_, _, _, _, _, _⟩) (v := .bool false) rfl (by kernel_rfl) (by kernel_rfl) (by kernel_rfl) (fun _ _ _ h => h) (Or.inl ⟨by rfl, fun w' hS => by go_simp⟩) p5 ?_
    simp only [Act.put, List.setIfInBounds_toArray, List.set_cons_zero, List.set_cons_succ]
    refine wpAnyH_take (i := 28) (oi := ⟨_, _, _, _, _, _⟩) (v := .bool false) rfl (by kernel_rfl) (by kernel_rfl) (by kernel_rfl) (fun _ _ _ h => h) (Or.inl ⟨by rfl, fun w' hS => by go_simp⟩) p5 ?_
    simp only [Act.put, List.setIfInBounds_toArray, List.set_cons_zero, List.set_cons_succ]
    refine wpAnyH_done (by kernel_rfl) ?_ _
    have T1 := Lib.hid p5
    clear p5
    go_upto_region 6 with (fail)
    have kp := T1.out.p
    have kq := T1.out.q
    have p0a := kp.cell 0
    have p1a := kp.cell 1
    have p2a := kp.cell 2
    have q0a := kq.cell 0
    have q1a := kq.cell 1
    have q2a := kq.cell 2
    simp only [List.getElem?_toArray, List.getElem?_cons_zero, List.getElem?_cons_succ] at p0a p1a p2a q0a q1a q2a
    have zpa := kp.lt
    have zqa := kq.lt
    clear kp kq
    go_wp2_with fail
    refine (L1.out _).mono ?_
    rintro e z1 ⟨rfl, q1⟩
    have T2 := Lib.hid (T1.out.below q1)
    clear q1 p0a p1a p2a q0a q1a q2a zpa zqa
    have kp := T2.out.p
    have kq := T2.out.q
    have p0b := kp.cell 0
    have p1b := kp.cell 1
    have p2b := kp.cell 2
    have q0b := kq.cell 0
    have q1b := kq.cell 1
    have q2b := kq.cell 2
    simp only [List.getElem?_toArray, List.getElem?_cons_zero, List.getElem?_cons_succ] at p0b p1b p2b q0b q1b q2b
    have zpb := kp.lt
    have zqb := kq.lt
    clear kp kq
    go_wp2_with fail
    go_ret
    exact ⟨rfl, T2.out.bel⟩
  · skip
    obtain ⟨u0, hu0⟩ : ∃ u, u = wc.drew := ⟨_, rfl⟩
    have s := T0.out.drew
    rw [← hu0] at s
    refine wp_region_held_drew (S := fun w' => T4 w w' ga gb g9 g10 #[.int .u8 a0, .int .u8 a1, .int .u8 a2] #[.int .u8 b0, .int .u8 b1, .int .u8 b2] #[.int .u64 x1, .int .u64 x2, .int .u64 x3] #[.int .u64 y1, .int .u64 y2, .int .u64 y3]) (by kernel_rfl) (by rw [← hu0]; exact s) (fun s0 => ?_)
    rw [← hu0] at s0 ⊢
    clear hu0 s
    refine wpAnyH_take (i := 0) (oi := ⟨_, _, _, _, _, _⟩) rfl (by kernel_rfl) (by kernel_rfl) (by kernel_rfl) (fun _ _ _ h => h) (yieldsIf_load_mid (by rfl) 25 (.tmp 9) rfl g9 0 rfl [.int .u64 x1, .int .u64 x2, .int .u64 x3] _ (fun w' hS => range_blkT hS.p) Try.underlying25 rfl info_rank) s0 ?_
    simp only [Act.put, List.setIfInBounds_toArray, List.set_cons_zero, List.set_cons_succ]
    refine wpAnyH_take (i := 1) (oi := ⟨_, _, _, _, _, _⟩) (v := .pointer (some ⟨ga, 0, none⟩)) rfl (by kernel_rfl) (by kernel_rfl) (by kernel_rfl) (fun _ _ _ h => h) (Or.inl ⟨by rfl, fun w' hS => by go_simp⟩) s0 ?_
    simp only [Act.put, List.setIfInBounds_toArray, List.set_cons_zero, List.set_cons_succ]
    refine wpAnyH_take (i := 2) (oi := ⟨_, _, _, _, _, _⟩) (v := .int .u8 a0) rfl (by kernel_rfl) (by kernel_rfl) (by kernel_rfl) (fun _ _ _ h => h) (Or.inl ⟨by rfl, fun w' hS => by have cc := hS.a.cell 0; simp only [List.getElem?_toArray, List.getElem?_cons_zero, List.getElem?_cons_succ] at cc; have zz := hS.a.lt; go_simp⟩) s0 ?_
    simp only [Act.put, List.setIfInBounds_toArray, List.set_cons_zero, List.set_cons_succ]
    refine wpAnyH_take (i := 3) (oi := ⟨_, _, _, _, _, _⟩) (v := .pointer (some ⟨ga, 1, none⟩)) rfl (by kernel_rfl) (by kernel_rfl) (by kernel_rfl) (fun _ _ _ h => h) (Or.inl ⟨by rfl, fun w' hS => by go_simp⟩) s0 ?_
    simp only [Act.put, List.setIfInBounds_toArray, List.set_cons_zero, List.set_cons_succ]
    refine wpAnyH_take (i := 4) (oi := ⟨_, _, _, _, _, _⟩) (v := .int .u8 a1) rfl (by kernel_rfl) (by kernel_rfl) (by kernel_rfl) (fun _ _ _ h => h) (Or.inl ⟨by rfl, fun w' hS => by have cc := hS.a.cell 1; simp only [List.getElem?_toArray, List.getElem?_cons_zero, List.getElem?_cons_succ] at cc; have zz := hS.a.lt; go_simp⟩) s0 ?_
    simp only [Act.put, List.setIfInBounds_toArray, List.set_cons_zero, List.set_cons_succ]
    refine wpAnyH_take (i := 5) (oi := ⟨_, _, _, _, _, _⟩) (v := .pointer (some ⟨ga, 2, none⟩)) rfl (by kernel_rfl) (by kernel_rfl) (by kernel_rfl) (fun _ _ _ h => h) (Or.inl ⟨by rfl, fun w' hS => by go_simp⟩) s0 ?_
    simp only [Act.put, List.setIfInBounds_toArray, List.set_cons_zero, List.set_cons_succ]
    refine wpAnyH_take (i := 6) (oi := ⟨_, _, _, _, _, _⟩) (v := .int .u8 a2) rfl (by kernel_rfl) (by kernel_rfl) (by kernel_rfl) (fun _ _ _ h => h) (Or.inl ⟨by rfl, fun w' hS => by have cc := hS.a.cell 2; simp only [List.getElem?_toArray, List.getElem?_cons_zero, List.getElem?_cons_succ] at cc; have zz := hS.a.lt; go_simp⟩) s0 ?_
    simp only [Act.put, List.setIfInBounds_toArray, List.set_cons_zero, List.set_cons_succ]
    refine wpAnyH_take (i := 7) (oi := ⟨_, _, _, _, _, _⟩) (v := .int .u64 g) rfl (by kernel_rfl) (by kernel_rfl) (by kernel_rfl) (fun _ _ _ h => h) (Or.inl ⟨by rfl, fun w' hS => by go_simp⟩) s0 ?_
    simp only [Act.put, List.setIfInBounds_toArray, List.set_cons_zero, List.set_cons_succ]
    refine wpAnyH_ready (rs := [8]) (by kernel_rfl) (by simp) ?_
    refine AllReadyH.cons rfl (fun K hK => ?_) AllReadyH.nil
    go_simp
    refine (RR.out _).mono ?_
    rintro e v1 ⟨rfl, q1⟩
    refine hK.out _ _ (s0.below q1) (fun p1 => ?_)
    clear hK K s0 q1
    refine wpAnyH_take (i := 9) (oi := ⟨_, _, _, _, _, _⟩) (v := .bool false) rfl (by kernel_rfl) (by kernel_rfl) (by kernel_rfl) (fun _ _ _ h => h) (Or.inl ⟨by rfl, fun w' hS => by have e3 := E3.out w'; go_simp⟩) p1 ?_
    simp only [Act.put, List.setIfInBounds_toArray, List.set_cons_zero, List.set_cons_succ]
    refine wpAnyH_take (i := 10) (oi := ⟨_, _, _, _, _, _⟩) (v := .bool false) rfl (by kernel_rfl) (by kernel_rfl) (by kernel_rfl) (fun _ _ _ h => h) (Or.inl ⟨by rfl, fun w' hS => by go_simp⟩) p1 ?_
    simp only [Act.put, List.setIfInBounds_toArray, List.set_cons_zero, List.set_cons_succ]
    refine wpAnyH_take (i := 11) (oi := ⟨_, _, _, _, _, _⟩) rfl (by kernel_rfl) (by kernel_rfl) (by kernel_rfl) (fun _ _ _ h => h) (yieldsIf_load_mid (by rfl) 25 (.tmp 9) rfl g9 0 rfl [.int .u64 x1, .int .u64 x2, .int .u64 x3] _ (fun w' hS => range_blkT hS.p) Try.underlying25 rfl info_rank) p1 ?_
    simp only [Act.put, List.setIfInBounds_toArray, List.set_cons_zero, List.set_cons_succ]
    refine wpAnyH_take (i := 12) (oi := ⟨_, _, _, _, _, _⟩) rfl (by kernel_rfl) (by kernel_rfl) (by kernel_rfl) (fun _ _ _ h => h) (yieldsIf_load_mid (by rfl) 25 (.tmp 10) rfl g10 0 rfl [.int .u64 y1, .int .u64 y2, .int .u64 y3] _ (fun w' hS => range_blkT hS.q) Try.underlying25 rfl info_rank) p1 ?_
    simp only [Act.put, List.setIfInBounds_toArray, List.set_cons_zero, List.set_cons_succ]
    refine wpAnyH_take (i := 14) (oi := ⟨_, _, _, _, _, _⟩) rfl (by kernel_rfl) (by kernel_rfl) (by kernel_rfl) (fun _ _ _ h => h) (yieldsIf_load_mid (by rfl) 25 (.tmp 9) rfl g9 0 rfl [.int .u64 x1, .int .u64 x2, .int .u64 x3] _ (fun w' hS => range_blkT hS.p) Try.underlying25 rfl info_rank) p1 ?_
    simp only [Act.put, List.setIfInBounds_toArray, List.set_cons_zero, List.set_cons_succ]
    refine wpAnyH_take (i := 15) (oi := ⟨_, _, _, _, _, _⟩) rfl (by kernel_rfl) (by kernel_rfl) (by kernel_rfl) (fun _ _ _ h => h) (yieldsIf_load_mid (by rfl) 25 (.tmp 10) rfl g10 0 rfl [.int .u64 y1, .int .u64 y2, .int .u64 y3] _ (fun w' hS => range_blkT hS.q) Try.underlying25 rfl info_rank) p1 ?_
    simp only [Act.put, List.setIfInBounds_toArray, List.set_cons_zero, List.set_cons_succ]
    refine wpAnyH_ready (rs := [13]) (by kernel_rfl) (by simp) ?_
    refine AllReadyH.cons rfl (fun K hK => ?_) AllReadyH.nil
    go_simp
    refine (L1.out _).mono ?_
    rintro e v2 ⟨rfl, q2⟩
    refine hK.out _ _ (p1.below q2) (fun p2 => ?_)
    clear hK K p1 q2
    refine wpAnyH_ready (rs := [16]) (by kernel_rfl) (by simp) ?_
    refine AllReadyH.cons rfl (fun K hK => ?_) AllReadyH.nil
    go_simp
    refine (L2.out _).mono ?_
    rintro e v3 ⟨rfl, q3⟩
    refine hK.out _ _ (p2.below q3) (fun p3 => ?_)
    clear hK K p2 q3
    refine wpAnyH_take (i := 17) (oi := ⟨_, _, _, _, _, _⟩) (v := .bool false) rfl (by kernel_rfl) (by kernel_rfl) (by kernel_rfl) (fun _ _ _ h => h) (Or.inl ⟨by rfl, fun w' hS => by go_simp⟩) p3 ?_
    simp only [Act.put, List.setIfInBounds_toArray, List.set_cons_zero, List.set_cons_succ]
    refine wpAnyH_take (i := 18) (oi := ⟨_, _, _, _, _, _⟩) (v := .bool false) rfl (by kernel_rfl) (by kernel_rfl) (by kernel_rfl) (fun _ _ _ h => h) (Or.inl ⟨by rfl, fun w' hS => by go_simp⟩) p3 ?_
    simp only [Act.put, List.setIfInBounds_toArray, List.set_cons_zero, List.set_cons_succ]
    refine wpAnyH_take (i := 19) (oi := ⟨_, _, _, _, _, _⟩) (v := .bool false) rfl (by kernel_rfl) (by kernel_rfl) (by kernel_rfl) (fun _ _ _ h => h) (Or.inl ⟨by rfl, fun w' hS => by go_simp⟩) p3 ?_
    simp only [Act.put, List.setIfInBounds_toArray, List.set_cons_zero, List.set_cons_succ]
    refine wpAnyH_take (i := 20) (oi := ⟨_, _, _, _, _, _⟩) rfl (by kernel_rfl) (by kernel_rfl) (by kernel_rfl) (fun _ _ _ h => h) (yieldsIf_load_mid (by rfl) 25 (.tmp 9) rfl g9 0 rfl [.int .u64 x1, .int .u64 x2, .int .u64 x3] _ (fun w' hS => range_blkT hS.p) Try.underlying25 rfl info_rank) p3 ?_
    simp only [Act.put, List.setIfInBounds_toArray, List.set_cons_zero, List.set_cons_succ]
    refine wpAnyH_take (i := 21) (oi := ⟨_, _, _, _, _, _⟩) rfl (by kernel_rfl) (by kernel_rfl) (by kernel_rfl) (fun _ _ _ h => h) (yieldsIf_load_mid (by rfl) 25 (.tmp 10) rfl g10 0 rfl [.int .u64 y1, .int .u64 y2, .int .u64 y3] _ (fun w' hS => range_blkT hS.q) Try.underlying25 rfl info_rank) p3 ?_
    simp only [Act.put, List.setIfInBounds_toArray, List.set_cons_zero, List.set_cons_succ]
    refine wpAnyH_ready (rs := [22]) (by kernel_rfl) (by simp) ?_
    refine AllReadyH.cons rfl (fun K hK => ?_) AllReadyH.nil
    go_simp
    refine (L1.out _).mono ?_
    rintro e v4 ⟨rfl, q4⟩
    refine hK.out _ _ (p3.below q4) (fun p4 => ?_)
    clear hK K p3 q4
    refine wpAnyH_take (i := 23) (oi := ⟨_, _, _, _, _, _⟩) (v := .bool false) rfl (by kernel_rfl) (by kernel_rfl) (by kernel_rfl) (fun _ _ _ h => h) (Or.inl ⟨by rfl, fun w' hS => by go_simp⟩) p4 ?_
    simp only [Act.put, List.setIfInBounds_toArray, List.set_cons_zero, List.set_cons_succ]
    refine wpAnyH_take (i := 24) (oi := ⟨_, _, _, _, _, _⟩) (v := undef) rfl (by kernel_rfl) (by kernel_rfl) (by kernel_rfl) (fun _ _ _ h => h) (Or.inr ⟨by rfl, rfl⟩) p4 ?_
    simp only [Act.put, List.setIfInBounds_toArray, List.set_cons_zero, List.set_cons_succ]
    refine wpAnyH_take (i := 25) (oi := ⟨_, _, _, _, _, _⟩) (v := undef) rfl (by kernel_rfl) (by kernel_rfl) (by kernel_rfl) (fun _ _ _ h => h) (Or.inr ⟨by rfl, rfl⟩) p4 ?_
    simp only [Act.put, List.setIfInBounds_toArray, List.set_cons_zero, List.set_cons_succ]
    refine wpAnyH_ready (rs := [26]) (by kernel_rfl) (by simp) ?_
    refine AllReadyH.cons rfl (fun K hK => ?_) AllReadyH.nil
    rw [if_neg (c := Region.wanted _ _ = true) (by intro h; exact absurd (show false = true from h) (by decide))]
    simp only [List.getElem_toArray, List.getElem_cons_succ, List.getElem_cons_zero, Act.put, List.setIfInBounds_toArray, List.set_cons_succ, List.set_cons_zero]
    refine hK.out _ _ p4 (fun p5 => ?_)
    clear hK K p4
    refine wpAnyH_take (i := 27) (oi := ⟨_, _, _, _, _, _⟩) (v := .bool false) rfl (by kernel_rfl) (by kernel_rfl) (by kernel_rfl) (fun _ _ _ h => h) (Or.inl ⟨by rfl, fun w' hS => by go_simp⟩) p5 ?_
    simp only [Act.put, List.setIfInBounds_toArray, List.set_cons_zero, List.set_cons_succ]
    refine wpAnyH_take (i := 28) (oi := ⟨_, _, _, _, _, _⟩) (v := .bool false) rfl (by kernel_rfl) (by kernel_rfl) (by kernel_rfl) (fun _ _ _ h => h) (Or.inl ⟨by rfl, fun w' hS => by go_simp⟩) p5 ?_
    simp only [Act.put, List.setIfInBounds_toArray, List.set_cons_zero, List.set_cons_succ]
    refine wpAnyH_done (by kernel_rfl) ?_ _
    have T1 := Lib.hid p5
    clear p5
    go_upto_region 6 with (fail)
    have kp := T1.out.p
    have kq := T1.out.q
    have p0a := kp.cell 0
    have p1a := kp.cell 1
    have p2a := kp.cell 2
    have q0a := kq.cell 0
    have q1a := kq.cell 1
    have q2a := kq.cell 2
    simp only [List.getElem?_toArray, List.getElem?_cons_zero, List.getElem?_cons_succ] at p0a p1a p2a q0a q1a q2a
    have zpa := kp.lt
    have zqa := kq.lt
    clear kp kq
    go_wp2_with fail
    refine (L1.out _).mono ?_
    rintro e z1 ⟨rfl, q1⟩
    have T2 := Lib.hid (T1.out.below q1)
    clear q1 p0a p1a p2a q0a q1a q2a zpa zqa
    have kp := T2.out.p
    have kq := T2.out.q
    have p0b := kp.cell 0
    have p1b := kp.cell 1
    have p2b := kp.cell 2
    have q0b := kq.cell 0
    have q1b := kq.cell 1
    have q2b := kq.cell 2
    simp only [List.getElem?_toArray, List.getElem?_cons_zero, List.getElem?_cons_succ] at p0b p1b p2b q0b q1b q2b
    have zpb := kp.lt
    have zqb := kq.lt
    clear kp kq
    go_wp2_with fail
    refine (L3.out _).mono ?_
    rintro e z2 ⟨rfl, q2⟩
    have T3 := Lib.hid (T2.out.below q2)
    clear q2 p0b p1b p2b q0b q1b q2b zpb zqb
    have kp := T3.out.p
    have kq := T3.out.q
    have p0c := kp.cell 0
    have p1c := kp.cell 1
    have p2c := kp.cell 2
    have q0c := kq.cell 0
    have q1c := kq.cell 1
    have q2c := kq.cell 2
    simp only [List.getElem?_toArray, List.getElem?_cons_zero, List.getElem?_cons_succ] at p0c p1c p2c q0c q1c q2c
    have zpc := kp.lt
    have zqc := kq.lt
    clear kp kq
    go_wp2_with fail
    go_ret
    exact ⟨rfl, T3.out.bel⟩
  · skip
    obtain ⟨u0, hu0⟩ : ∃ u, u = wc.drew := ⟨_, rfl⟩
    have s := T0.out.drew
    rw [← hu0] at s
    refine wp_region_held_drew (S := fun w' => T4 w w' ga gb g9 g10 #[.int .u8 a0, .int .u8 a1, .int .u8 a2] #[.int .u8 b0, .int .u8 b1, .int .u8 b2] #[.int .u64 x1, .int .u64 x2, .int .u64 x3] #[.int .u64 x1, .int .u64 x2, .int .u64 x3]) (by kernel_rfl) (by rw [← hu0]; exact s) (fun s0 => ?_)
    rw [← hu0] at s0 ⊢
    clear hu0 s
    refine wpAnyH_take (i := 0) (oi := ⟨_, _, _, _, _, _⟩) rfl (by kernel_rfl) (by kernel_rfl) (by kernel_rfl) (fun _ _ _ h => h) (yieldsIf_load_mid (by rfl) 25 (.tmp 9) rfl g9 0 rfl [.int .u64 x1, .int .u64 x2, .int .u64 x3] _ (fun w' hS => range_blkT hS.p) Try.underlying25 rfl info_rank) s0 ?_
    simp only [Act.put, List.setIfInBounds_toArray, List.set_cons_zero, List.set_cons_succ]
    refine wpAnyH_take (i := 1) (oi := ⟨_, _, _, _, _, _⟩) (v := .pointer (some ⟨ga, 0, none⟩)) rfl (by kernel_rfl) (by kernel_rfl) (by kernel_rfl) (fun _ _ _ h => h) (Or.inl ⟨by rfl, fun w' hS => by go_simp⟩) s0 ?_
    simp only [Act.put, List.setIfInBounds_toArray, List.set_cons_zero, List.set_cons_succ]
    refine wpAnyH_take (i := 2) (oi := ⟨_, _, _, _, _, _⟩) (v := .int .u8 a0) rfl (by kernel_rfl) (by kernel_rfl) (by kernel_rfl) (fun _ _ _ h => h) (Or.inl ⟨by rfl, fun w' hS => by have cc := hS.a.cell 0; simp only [List.getElem?_toArray, List.getElem?_cons_zero, List.getElem?_cons_succ] at cc; have zz := hS.a.lt; go_simp⟩) s0 ?_
    simp only [Act.put, List.setIfInBounds_toArray, List.set_cons_zero, List.set_cons_succ]
    refine wpAnyH_take (i := 3) (oi := ⟨_, _, _, _, _, _⟩) (v := .pointer (some ⟨ga, 1, none⟩)) rfl (by kernel_rfl) (by kernel_rfl) (by kernel_rfl) (fun _ _ _ h => h) (Or.inl ⟨by rfl, fun w' hS => by go_simp⟩) s0 ?_
    simp only [Act.put, List.setIfInBounds_toArray, List.set_cons_zero, List.set_cons_succ]
    refine wpAnyH_take (i := 4) (oi := ⟨_, _, _, _, _, _⟩) (v := .int .u8 a1) rfl (by kernel_rfl) (by kernel_rfl) (by kernel_rfl) (fun _ _ _ h => h) (Or.inl ⟨by rfl, fun w' hS => by have cc := hS.a.cell 1; simp only [List.getElem?_toArray, List.getElem?_cons_zero, List.getElem?_cons_succ] at cc; have zz := hS.a.lt; go_simp⟩) s0 ?_
    simp only [Act.put, List.setIfInBounds_toArray, List.set_cons_zero, List.set_cons_succ]
    refine wpAnyH_take (i := 5) (oi := ⟨_, _, _, _, _, _⟩) (v := .pointer (some ⟨ga, 2, none⟩)) rfl (by kernel_rfl) (by kernel_rfl) (by kernel_rfl) (fun _ _ _ h => h) (Or.inl ⟨by rfl, fun w' hS => by go_simp⟩) s0 ?_
    simp only [Act.put, List.setIfInBounds_toArray, List.set_cons_zero, List.set_cons_succ]
    refine wpAnyH_take (i := 6) (oi := ⟨_, _, _, _, _, _⟩) (v := .int .u8 a2) rfl (by kernel_rfl) (by kernel_rfl) (by kernel_rfl) (fun _ _ _ h => h) (Or.inl ⟨by rfl, fun w' hS => by have cc := hS.a.cell 2; simp only [List.getElem?_toArray, List.getElem?_cons_zero, List.getElem?_cons_succ] at cc; have zz := hS.a.lt; go_simp⟩) s0 ?_
    simp only [Act.put, List.setIfInBounds_toArray, List.set_cons_zero, List.set_cons_succ]
    refine wpAnyH_take (i := 7) (oi := ⟨_, _, _, _, _, _⟩) (v := .int .u64 g) rfl (by kernel_rfl) (by kernel_rfl) (by kernel_rfl) (fun _ _ _ h => h) (Or.inl ⟨by rfl, fun w' hS => by go_simp⟩) s0 ?_
    simp only [Act.put, List.setIfInBounds_toArray, List.set_cons_zero, List.set_cons_succ]
    refine wpAnyH_ready (rs := [8]) (by kernel_rfl) (by simp) ?_
    refine AllReadyH.cons rfl (fun K hK => ?_) AllReadyH.nil
    go_simp
    refine (RR.out _).mono ?_
    rintro e v1 ⟨rfl, q1⟩
    refine hK.out _ _ (s0.below q1) (fun p1 => ?_)
    clear hK K s0 q1
    refine wpAnyH_take (i := 9) (oi := ⟨_, _, _, _, _, _⟩) (v := .bool false) rfl (by kernel_rfl) (by kernel_rfl) (by kernel_rfl) (fun _ _ _ h => h) (Or.inl ⟨by rfl, fun w' hS => by have e3 := E3.out w'; go_simp⟩) p1 ?_
    simp only [Act.put, List.setIfInBounds_toArray, List.set_cons_zero, List.set_cons_succ]
    refine wpAnyH_take (i := 10) (oi := ⟨_, _, _, _, _, _⟩) (v := .bool false) rfl (by kernel_rfl) (by kernel_rfl) (by kernel_rfl) (fun _ _ _ h => h) (Or.inl ⟨by rfl, fun w' hS => by go_simp⟩) p1 ?_
    simp only [Act.put, List.setIfInBounds_toArray, List.set_cons_zero, List.set_cons_succ]
    refine wpAnyH_take (i := 11) (oi := ⟨_, _, _, _, _, _⟩) rfl (by kernel_rfl) (by kernel_rfl) (by kernel_rfl) (fun _ _ _ h => h) (yieldsIf_load_mid (by rfl) 25 (.tmp 9) rfl g9 0 rfl [.int .u64 x1, .int .u64 x2, .int .u64 x3] _ (fun w' hS => range_blkT hS.p) Try.underlying25 rfl info_rank) p1 ?_
    simp only [Act.put, List.setIfInBounds_toArray, List.set_cons_zero, List.set_cons_succ]
    refine wpAnyH_take (i := 12) (oi := ⟨_, _, _, _, _, _⟩) rfl (by kernel_rfl) (by kernel_rfl) (by kernel_rfl) (fun _ _ _ h => h) (yieldsIf_load_mid (by rfl) 25 (.tmp 10) rfl g10 0 rfl [.int .u64 x1, .int .u64 x2, .int .u64 x3] _ (fun w' hS => range_blkT hS.q) Try.underlying25 rfl info_rank) p1 ?_
    simp only [Act.put, List.setIfInBounds_toArray, List.set_cons_zero, List.set_cons_succ]
    refine wpAnyH_take (i := 14) (oi := ⟨_, _, _, _, _, _⟩) rfl (by kernel_rfl) (by kernel_rfl) (by kernel_rfl) (fun _ _ _ h => h) (yieldsIf_load_mid (by rfl) 25 (.tmp 9) rfl g9 0 rfl [.int .u64 x1, .int .u64 x2, .int .u64 x3] _ (fun w' hS => range_blkT hS.p) Try.underlying25 rfl info_rank) p1 ?_
    simp only [Act.put, List.setIfInBounds_toArray, List.set_cons_zero, List.set_cons_succ]
    refine wpAnyH_take (i := 15) (oi := ⟨_, _, _, _, _, _⟩) rfl (by kernel_rfl) (by kernel_rfl) (by kernel_rfl) (fun _ _ _ h => h) (yieldsIf_load_mid (by rfl) 25 (.tmp 10) rfl g10 0 rfl [.int .u64 x1, .int .u64 x2, .int .u64 x3] _ (fun w' hS => range_blkT hS.q) Try.underlying25 rfl info_rank) p1 ?_
    simp only [Act.put, List.setIfInBounds_toArray, List.set_cons_zero, List.set_cons_succ]
    refine wpAnyH_ready (rs := [13]) (by kernel_rfl) (by simp) ?_
    refine AllReadyH.cons rfl (fun K hK => ?_) AllReadyH.nil
    go_simp
    refine (L1.out _).mono ?_
    rintro e v2 ⟨rfl, q2⟩
    refine hK.out _ _ (p1.below q2) (fun p2 => ?_)
    clear hK K p1 q2
    refine wpAnyH_ready (rs := [16]) (by kernel_rfl) (by simp) ?_
    refine AllReadyH.cons rfl (fun K hK => ?_) AllReadyH.nil
    go_simp
    refine (L2.out _).mono ?_
    rintro e v3 ⟨rfl, q3⟩
    refine hK.out _ _ (p2.below q3) (fun p3 => ?_)
    clear hK K p2 q3
    refine wpAnyH_take (i := 17) (oi := ⟨_, _, _, _, _, _⟩) (v := .bool false) rfl (by kernel_rfl) (by kernel_rfl) (by kernel_rfl) (fun _ _ _ h => h) (Or.inl ⟨by rfl, fun w' hS => by go_simp⟩) p3 ?_
    simp only [Act.put, List.setIfInBounds_toArray, List.set_cons_zero, List.set_cons_succ]
    refine wpAnyH_take (i := 18) (oi := ⟨_, _, _, _, _, _⟩) (v := .bool false) rfl (by kernel_rfl) (by kernel_rfl) (by kernel_rfl) (fun _ _ _ h => h) (Or.inl ⟨by rfl, fun w' hS => by go_simp⟩) p3 ?_
    simp only [Act.put, List.setIfInBounds_toArray, List.set_cons_zero, List.set_cons_succ]
    refine wpAnyH_take (i := 19) (oi := ⟨_, _, _, _, _, _⟩) (v := .bool false) rfl (by kernel_rfl) (by kernel_rfl) (by kernel_rfl) (fun _ _ _ h => h) (Or.inl ⟨by rfl, fun w' hS => by go_simp⟩) p3 ?_
    simp only [Act.put, List.setIfInBounds_toArray, List.set_cons_zero, List.set_cons_succ]
    refine wpAnyH_take (i := 20) (oi := ⟨_, _, _, _, _, _⟩) rfl (by kernel_rfl) (by kernel_rfl) (by kernel_rfl) (fun _ _ _ h => h) (yieldsIf_load_mid (by rfl) 25 (.tmp 9) rfl g9 0 rfl [.int .u64 x1, .int .u64 x2, .int .u64 x3] _ (fun w' hS => range_blkT hS.p) Try.underlying25 rfl info_rank) p3 ?_
    simp only [Act.put, List.setIfInBounds_toArray, List.set_cons_zero, List.set_cons_succ]
    refine wpAnyH_take (i := 21) (oi := ⟨_, _, _, _, _, _⟩) rfl (by kernel_rfl) (by kernel_rfl) (by kernel_rfl) (fun _ _ _ h => h) (yieldsIf_load_mid (by rfl) 25 (.tmp 10) rfl g10 0 rfl [.int .u64 x1, .int .u64 x2, .int .u64 x3] _ (fun w' hS => range_blkT hS.q) Try.underlying25 rfl info_rank) p3 ?_
    simp only [Act.put, List.setIfInBounds_toArray, List.set_cons_zero, List.set_cons_succ]
    refine wpAnyH_ready (rs := [22]) (by kernel_rfl) (by simp) ?_
    refine AllReadyH.cons rfl (fun K hK => ?_) AllReadyH.nil
    go_simp
    refine (L1.out _).mono ?_
    rintro e v4 ⟨rfl, q4⟩
    refine hK.out _ _ (p3.below q4) (fun p4 => ?_)
    clear hK K p3 q4
    refine wpAnyH_take (i := 23) (oi := ⟨_, _, _, _, _, _⟩) (v := .bool false) rfl (by kernel_rfl) (by kernel_rfl) (by kernel_rfl) (fun _ _ _ h => h) (Or.inl ⟨by rfl, fun w' hS => by go_simp⟩) p4 ?_
    simp only [Act.put, List.setIfInBounds_toArray, List.set_cons_zero, List.set_cons_succ]
    refine wpAnyH_take (i := 24) (oi := ⟨_, _, _, _, _, _⟩) (v := undef) rfl (by kernel_rfl) (by kernel_rfl) (by kernel_rfl) (fun _ _ _ h => h) (Or.inr ⟨by rfl, rfl⟩) p4 ?_
    simp only [Act.put, List.setIfInBounds_toArray, List.set_cons_zero, List.set_cons_succ]
    refine wpAnyH_take (i := 25) (oi := ⟨_, _, _, _, _, _⟩) (v := undef) rfl (by kernel_rfl) (by kernel_rfl) (by kernel_rfl) (fun _ _ _ h => h) (Or.inr ⟨by rfl, rfl⟩) p4 ?_
    simp only [Act.put, List.setIfInBounds_toArray, List.set_cons_zero, List.set_cons_succ]
    refine wpAnyH_ready (rs := [26]) (by kernel_rfl) (by simp) ?_
    refine AllReadyH.cons rfl (fun K hK => ?_) AllReadyH.nil
    rw [if_neg (c := Region.wanted _ _ = true) (by intro h; exact absurd (show false = true from h) (by decide))]
    simp only [List.getElem_toArray, List.getElem_cons_succ, List.getElem_cons_zero, Act.put, List.setIfInBounds_toArray, List.set_cons_succ, List.set_cons_zero]
    refine hK.out _ _ p4 (fun p5 => ?_)
    clear hK K p4
    refine wpAnyH_take (i := 27) (oi := ⟨_, _, _, _, _, _⟩) (v := .bool false) rfl (by kernel_rfl) (by kernel_rfl) (by kernel_rfl) (fun _ _ _ h => h) (Or.inl ⟨by rfl, fun w' hS => by go_simp⟩) p5 ?_
    simp only [Act.put, List.setIfInBounds_toArray, List.set_cons_zero, List.set_cons_succ]
    refine wpAnyH_take (i := 28) (oi := ⟨_, _, _, _, _, _⟩) (v := .bool false) rfl (by kernel_rfl) (by kernel_rfl) (by kernel_rfl) (fun _ _ _ h => h) (Or.inl ⟨by rfl, fun w' hS => by go_simp⟩) p5 ?_
    simp only [Act.put, List.setIfInBounds_toArray, List.set_cons_zero, List.set_cons_succ]
    refine wpAnyH_done (by kernel_rfl) ?_ _
    have T1 := Lib.hid p5
    clear p5
    go_upto_region 6 with (fail)
    have kp := T1.out.p
    have kq := T1.out.q
    have p0a := kp.cell 0
    have p1a := kp.cell 1
    have p2a := kp.cell 2
    have q0a := kq.cell 0
    have q1a := kq.cell 1
    have q2a := kq.cell 2
    simp only [List.getElem?_toArray, List.getElem?_cons_zero, List.getElem?_cons_succ] at p0a p1a p2a q0a q1a q2a
    have zpa := kp.lt
    have zqa := kq.lt
    clear kp kq
    go_wp2_with fail
    refine (L1.out _).mono ?_
    rintro e z1 ⟨rfl, q1⟩
    have T2 := Lib.hid (T1.out.below q1)
    clear q1 p0a p1a p2a q0a q1a q2a zpa zqa
    have kp := T2.out.p
    have kq := T2.out.q
    have p0b := kp.cell 0
    have p1b := kp.cell 1
    have p2b := kp.cell 2
    have q0b := kq.cell 0
    have q1b := kq.cell 1
    have q2b := kq.cell 2
    simp only [List.getElem?_toArray, List.getElem?_cons_zero, List.getElem?_cons_succ] at p0b p1b p2b q0b q1b q2b
    have zpb := kp.lt
    have zqb := kq.lt
    clear kp kq
    go_wp2_with fail
    refine (L3.out _).mono ?_
    rintro e z2 ⟨rfl, q2⟩
    have T3 := Lib.hid (T2.out.below q2)
    clear q2 p0b p1b p2b q0b q1b q2b zpb zqb
    have kp := T3.out.p
    have kq := T3.out.q
    have p0c := kp.cell 0
    have p1c := kp.cell 1
    have p2c := kp.cell 2
    have q0c := kq.cell 0
    have q1c := kq.cell 1
    have q2c := kq.cell 2
    simp only [List.getElem?_toArray, List.getElem?_cons_zero, List.getElem?_cons_succ] at p0c p1c p2c q0c q1c q2c
    have zpc := kp.lt
    have zqc := kq.lt
    clear kp kq
    have e3 := E3.out z2
    go_wp2_with fail
    go_ret
    exact ⟨rfl, T3.out.bel⟩
end Go.Proofs.Ytchohcfcnghmlaa
