/-
  The reference of head: Few, Right.
-/
import Derived.Test.YtomapklkbfjafaaDoorHeadG
import Derived.Test.YtomapklkbfjafaaDoorVintH
namespace Go.Proofs.YtomapklkbfjafaaDoor
open Go.RowKit
set_option linter.unusedVariables false

/-- A head as a value. -/
def HV (lg : Bool) (lv : Int) (ph : Bool) (A : Option Addr) (a : List Int) (c : Nat) (B : Option Addr) (b : List Int) (d : Nat) : Value :=
  .agg #[.bool lg, .int .i64 lv, .bool ph, .slice A a.length c, .slice B b.length d]

set_option maxHeartbeats 800000 in
theorem Few_any (lg : Bool) (lv : Int) (ph : Bool) (A : Option Addr) (a : List Int) (c : Nat) (B : Option Addr) (b : List Int) (d : Nat) (w : World) (ha : Sl w A c a) (hb : Sl w B d b) :
    Calls Tryd.prog 5 #[HV lg lv ph A a c B b d] w fun r w' => ∃ A' c' B' d', r = .returned (HV lg lv ph A' (a.take 30) c' B' (b.take 30) d') ∧ Own w' w.heap.size A' c' (a.take 30) ∧ Own w' w.heap.size B' d' (b.take 30) ∧ Below w.heap.size w w' := by
  have C1 := (fun W (hr : Rd W A a) => cut_any A c a 30 W hr (by have := ha.max; have := ha.le; omega) ha.le (by omega) (by omega))
  have C2 := (fun W (hr : Rd W B b) => cut_any B d b 30 W hr (by have := hb.max; have := hb.le; omega) hb.le (by omega) (by omega))
  obtain ⟨a2, ha2⟩ : ∃ x, x = a.take (30 : Int).toNat := ⟨_, rfl⟩
  obtain ⟨b2, hb2⟩ : ∃ x, x = b.take (30 : Int).toNat := ⟨_, rfl⟩
  rw [← ha2] at C1
  rw [← hb2] at C2
  rw [show a.take 30 = a2 from ha2.symm, show b.take 30 = b2 from hb2.symm]
  have C1' := Lib.hid C1
  have C2' := Lib.hid C2
  clear C1 C2
  have C1 := C1'
  have C2 := C2'
  clear C1' C2'
  have HA := Lib.hid ha.rd
  have HB := Lib.hid hb.rd
  clear ha2 hb2 ha hb
  unfold HV
  go_enter Tryd.func5, Tryd.ntmps5
  go_wp2_with fail
  obtain ⟨W, hW⟩ : ∃ W, W = (w.alloc (.cells #[.bool lg, .int .i64 lv, .bool ph, .slice A a.length c, .slice B b.length d] 24)).alloc (.cells #[.bool false, .int .i64 0, .bool false, .slice none 0 0, .slice none 0 0] 24) := ⟨_, rfl⟩
  obtain ⟨gR, hgR⟩ : ∃ x, x = w.heap.size + 1 := ⟨_, rfl⟩
  have kb : Blk W w.heap.size 24 #[.bool lg, .int .i64 lv, .bool ph, .slice A a.length c, .slice B b.length d] := by rw [hW]; exact (Blk.new w _ _).alloc _
  have kr : Blk W gR 24 #[.bool false, .int .i64 0, .bool false, .slice none 0 0, .slice none 0 0] := by
    rw [hW, hgR]
    have h := Blk.new (w.alloc (.cells #[.bool lg, .int .i64 lv, .bool ph, .slice A a.length c, .slice B b.length d] 24)) 24 #[.bool false, .int .i64 0, .bool false, .slice none 0 0, .slice none 0 0]
    simpa using h
  have bl : Below w.heap.size w W := by rw [hW]; exact ((Below.refl _ _).alloc (Nat.le_refl _) _).alloc (by simp) _
  show Code.wp _ _ _ _ ((w.alloc (.cells #[.bool lg, .int .i64 lv, .bool ph, .slice A a.length c, .slice B b.length d] 24)).alloc (.cells #[.bool false, .int .i64 0, .bool false, .slice none 0 0, .slice none 0 0] 24))
  rw [← hW, ← hgR]
  have hne : w.heap.size ≠ gR := by omega
  have hge : w.heap.size ≤ gR := by omega
  clear hW hgR
  have KS0 := (show ∀ w', Blk w' w.heap.size 24 #[.bool lg, .int .i64 lv, .bool ph, .slice A a.length c, .slice B b.length d] → (w'.cell? ⟨w.heap.size, 0, none⟩ = some (.bool lg) ∧ w'.cell? ⟨w.heap.size, 1, none⟩ = some (.int .i64 lv) ∧ w'.cell? ⟨w.heap.size, 2, none⟩ = some (.bool ph) ∧ w'.cell? ⟨w.heap.size, 3, none⟩ = some (.slice A a.length c) ∧ w'.cell? ⟨w.heap.size, 4, none⟩ = some (.slice B b.length d)) from fun w' k => ⟨k.cell 0, k.cell 1, k.cell 2, k.cell 3, k.cell 4⟩)
  have KB := Lib.hid (show ∀ w', Below W.heap.size W.drew w' → Blk w' w.heap.size 24 #[.bool lg, .int .i64 lv, .bool ph, .slice A a.length c, .slice B b.length d] from fun w' hb => (show Blk W.drew w.heap.size _ _ from kb).below hb kb.lt)
  have KR := Lib.hid (show ∀ w', Below W.heap.size W.drew w' → Blk w' gR 24 #[.bool false, .int .i64 0, .bool false, .slice none 0 0, .slice none 0 0] from fun w' hb => (show Blk W.drew gR _ _ from kr).below hb kr.lt)
  have KS := Lib.hid KS0
  have BL := Lib.hid bl
  clear bl kb kr KS0
  refine wp_region_held_drew (S := fun w' => (w'.cell? ⟨w.heap.size, 0, none⟩ = some (.bool lg) ∧ w'.cell? ⟨w.heap.size, 1, none⟩ = some (.int .i64 lv) ∧ w'.cell? ⟨w.heap.size, 2, none⟩ = some (.bool ph) ∧ w'.cell? ⟨w.heap.size, 3, none⟩ = some (.slice A a.length c) ∧ w'.cell? ⟨w.heap.size, 4, none⟩ = some (.slice B b.length d))) (by kernel_rfl) (KS.out _ (KB.out _ (Below.refl _ _))) (fun hHeld => ?_)
  refine wpAnyH_take (i := 0) (oi := ⟨_, _, _, _, _, _⟩) (v := .pointer (some ⟨w.heap.size, 0, none⟩)) rfl (by kernel_rfl) (by kernel_rfl) (by kernel_rfl) (fun _ _ _ h => h) (Or.inl ⟨by rfl, fun w' hS => by obtain ⟨h0, h1, h2, h3, h4⟩ := hS; go_simp⟩) hHeld ?_
  simp only [Act.put, List.setIfInBounds_toArray, List.set_cons_zero, List.set_cons_succ]
  refine wpAnyH_take (i := 1) (oi := ⟨_, _, _, _, _, _⟩) (v := .bool lg) rfl (by kernel_rfl) (by kernel_rfl) (by kernel_rfl) (fun _ _ _ h => h) (Or.inl ⟨by rfl, fun w' hS => by obtain ⟨h0, h1, h2, h3, h4⟩ := hS; go_simp⟩) hHeld ?_
  simp only [Act.put, List.setIfInBounds_toArray, List.set_cons_zero, List.set_cons_succ]
  refine wpAnyH_take (i := 2) (oi := ⟨_, _, _, _, _, _⟩) (v := .pointer (some ⟨w.heap.size, 1, none⟩)) rfl (by kernel_rfl) (by kernel_rfl) (by kernel_rfl) (fun _ _ _ h => h) (Or.inl ⟨by rfl, fun w' hS => by obtain ⟨h0, h1, h2, h3, h4⟩ := hS; go_simp⟩) hHeld ?_
  simp only [Act.put, List.setIfInBounds_toArray, List.set_cons_zero, List.set_cons_succ]
  refine wpAnyH_take (i := 3) (oi := ⟨_, _, _, _, _, _⟩) (v := .int .i64 lv) rfl (by kernel_rfl) (by kernel_rfl) (by kernel_rfl) (fun _ _ _ h => h) (Or.inl ⟨by rfl, fun w' hS => by obtain ⟨h0, h1, h2, h3, h4⟩ := hS; go_simp⟩) hHeld ?_
  simp only [Act.put, List.setIfInBounds_toArray, List.set_cons_zero, List.set_cons_succ]
  refine wpAnyH_take (i := 4) (oi := ⟨_, _, _, _, _, _⟩) (v := .pointer (some ⟨w.heap.size, 2, none⟩)) rfl (by kernel_rfl) (by kernel_rfl) (by kernel_rfl) (fun _ _ _ h => h) (Or.inl ⟨by rfl, fun w' hS => by obtain ⟨h0, h1, h2, h3, h4⟩ := hS; go_simp⟩) hHeld ?_
  simp only [Act.put, List.setIfInBounds_toArray, List.set_cons_zero, List.set_cons_succ]
  refine wpAnyH_take (i := 5) (oi := ⟨_, _, _, _, _, _⟩) (v := .bool ph) rfl (by kernel_rfl) (by kernel_rfl) (by kernel_rfl) (fun _ _ _ h => h) (Or.inl ⟨by rfl, fun w' hS => by obtain ⟨h0, h1, h2, h3, h4⟩ := hS; go_simp⟩) hHeld ?_
  simp only [Act.put, List.setIfInBounds_toArray, List.set_cons_zero, List.set_cons_succ]
  refine wpAnyH_take (i := 6) (oi := ⟨_, _, _, _, _, _⟩) (v := .pointer (some ⟨w.heap.size, 3, none⟩)) rfl (by kernel_rfl) (by kernel_rfl) (by kernel_rfl) (fun _ _ _ h => h) (Or.inl ⟨by rfl, fun w' hS => by obtain ⟨h0, h1, h2, h3, h4⟩ := hS; go_simp⟩) hHeld ?_
  simp only [Act.put, List.setIfInBounds_toArray, List.set_cons_zero, List.set_cons_succ]
  refine wpAnyH_take (i := 7) (oi := ⟨_, _, _, _, _, _⟩) (v := .slice A a.length c) rfl (by kernel_rfl) (by kernel_rfl) (by kernel_rfl) (fun _ _ _ h => h) (Or.inl ⟨by rfl, fun w' hS => by obtain ⟨h0, h1, h2, h3, h4⟩ := hS; go_simp⟩) hHeld ?_
  simp only [Act.put, List.setIfInBounds_toArray, List.set_cons_zero, List.set_cons_succ]
  refine wpAnyH_take (i := 9) (oi := ⟨_, _, _, _, _, _⟩) (v := .pointer (some ⟨w.heap.size, 4, none⟩)) rfl (by kernel_rfl) (by kernel_rfl) (by kernel_rfl) (fun _ _ _ h => h) (Or.inl ⟨by rfl, fun w' hS => by obtain ⟨h0, h1, h2, h3, h4⟩ := hS; go_simp⟩) hHeld ?_
  simp only [Act.put, List.setIfInBounds_toArray, List.set_cons_zero, List.set_cons_succ]
  refine wpAnyH_take (i := 10) (oi := ⟨_, _, _, _, _, _⟩) (v := .slice B b.length d) rfl (by kernel_rfl) (by kernel_rfl) (by kernel_rfl) (fun _ _ _ h => h) (Or.inl ⟨by rfl, fun w' hS => by obtain ⟨h0, h1, h2, h3, h4⟩ := hS; go_simp⟩) hHeld ?_
  simp only [Act.put, List.setIfInBounds_toArray, List.set_cons_zero, List.set_cons_succ]
  refine wpAnyH_ready (rs := [8]) (by kernel_rfl) (by simp) ?_
  refine AllReadyH.cons rfl (fun K hK => ?_) AllReadyH.nil
  go_simp
  refine (C1.out W.drew (HA.out.below BL.out.drew)).mono ?_
  rintro e w1 ⟨A1, c1, rfl, o1, b1⟩
  refine hK.out _ _ (KS.out _ (KB.out _ b1)) (fun hHeld1 => ?_)
  clear hK K
  refine wpAnyH_ready (rs := [11]) (by kernel_rfl) (by simp) ?_
  refine AllReadyH.cons rfl (fun K hK => ?_) AllReadyH.nil
  go_simp
  refine (C2.out w1 ((HB.out.below BL.out.drew).below b1)).mono ?_
  rintro e w2 ⟨A2, c2, rfl, o2, b2'⟩
  have z2 : Below W.heap.size W.drew w2 := b1.trans (b2'.mono b1.size)
  refine hK.out _ _ (KS.out _ (KB.out _ z2)) (fun hHeld2 => ?_)
  clear hK K
  refine wpAnyH_take (i := 12) (oi := ⟨_, _, _, _, _, _⟩) (v := .agg #[.bool lg, .int .i64 lv, .bool ph, .slice A1 a2.length c1, .slice A2 b2.length c2]) rfl (by kernel_rfl) (by kernel_rfl) (by kernel_rfl) (fun _ _ _ h => h) (Or.inl ⟨by rfl, fun w' hS => by go_simp⟩) hHeld2 ?_
  simp only [Act.put, List.setIfInBounds_toArray, List.set_cons_zero, List.set_cons_succ]
  have r := KR.out _ z2
  have f0 := r.frozen 0
  have f1 := r.frozen 1
  have f2 := r.frozen 2
  have f3 := r.frozen 3
  have f4 := r.frozen 4
  have q0 := r.cell 0
  have q1 := r.cell 1
  have q2 := r.cell 2
  have q3 := r.cell 3
  have q4 := r.cell 4
  refine wpAnyH_ready (rs := [13]) (by kernel_rfl) (by simp) ?_
  refine AllReadyH.cons rfl (fun K hK => ?_) AllReadyH.nil
  go_simp
  refine hK.out _ (set5 w2 gR (.bool lg) (.int .i64 lv) (.bool ph) (.slice A1 a2.length c1) (.slice A2 b2.length c2)) (KS.out _ (set5_far (KB.out _ z2) hne _ _ _ _ _)) (fun hHeld3 => ?_)
  clear hK K
  refine wpAnyH_done (by kernel_rfl) ?_ _
  have O1 := Lib.hid ((o1.below b2').base_le (show w.heap.size ≤ W.drew.heap.size from BL.out.size))
  have O2 := Lib.hid (o2.base_le (show w.heap.size ≤ w1.heap.size from Nat.le_trans BL.out.size b1.size))
  have BB := Lib.hid (BL.out.drew.trans (z2.mono BL.out.size))
  have RR := Lib.hid r
  clear o1 o2 b1 z2 b2' r f0 f1 f2 f3 f4 q0 q1 q2 q3 q4 hHeld hHeld1 hHeld2 hHeld3
  go_wp2_with fail
  refine bodyPost_ret (v := .agg #[.bool lg, .int .i64 lv, .bool ph, .slice A1 a2.length c1, .slice A2 b2.length c2]) (results_cell_row rfl _ _ gR 24 _ (0, 0) _ rfl (set5_blk RR.out _ _ _ _ _) Tryd.underlying24 rfl (by kernel_rfl)) rfl ?_
  exact ⟨_, _, _, _, rfl, set5_own O1.out RR.out (by decide) _ _ _ _ _, set5_own O2.out RR.out (by decide) _ _ _ _ _, below_set5 BB.out hge _ _ _ _ _⟩
def rightB (lg : Bool) (lv : Int) (ph : Bool) (a b : List Int) : Bool :=
  if lg then decide (0 ≤ lv) && decide (lv ≤ 1) && decide (a.length < 21) && decide (b.length < 21) && !ph else decide (lv = 2) && decide (a.length = 8) && decide (b.length = 0)
theorem Right_any (lg : Bool) (lv : Int) (ph : Bool) (A : Option Addr) (a : List Int) (c : Nat) (B : Option Addr) (b : List Int) (d : Nat) (w : World) :
    Calls Tryd.prog 19 #[HV lg lv ph A a c B b d] w fun r w' => r = .returned (.bool (rightB lg lv ph a b)) ∧ Below w.heap.size w w' := by
  unfold HV
  obtain ⟨R, hR⟩ : ∃ R, R = rightB lg lv ph a b := ⟨_, rfl⟩
  rw [← hR]
  have HR := Lib.hid hR
  clear hR
  cases lg <;> cases ph
  all_goals
    go_enter Tryd.func19, Tryd.ntmps19
    go_wp2_with fail
  all_goals
    go_ret
    refine ⟨?_, (Below.refl _ _).alloc (Nat.le_refl _) _⟩
    rw [HR.out]
    unfold rightB
    simp
    first
      | done
      | omega
      | (rename_i h1 h2
         have h3 : a.length = 8 := by omega
         have h4 : ((b.length : Int) == 0) = decide (b = []) := by
           cases b with
           | nil => rfl
           | cons x r => simp; omega
         rw [h4]
         simp [h1, h3])
end Go.Proofs.YtomapklkbfjafaaDoor
