/-
  frame.Bytes on the two frames of the examples.
-/
import Derived.Test.YtfimngmpkckcdaaDoorFrameB
import Derived.Test.YtfimngmpkckcdaaDoorInts
import Derived.Lib.SmallJoins
namespace Go.Proofs.YtfimngmpkckcdaaDoor
open Go.RowKit
set_option linter.unusedVariables false
set_option linter.unusedSimpArgs false

theorem wpList_appX {ops : Array Oper} {rest : List Oper} {o : Oper} {a : Act} {w : World} {Q : Exit → Act → World → Prop} (hgd : o.guard = none) (s x : Operand)
    (ho : o.op = .call { callee := .builtin .append, args := #[s, x], argTypes := #[23, 23] })
    (base : Nat) {c d : Nat} {A B : Option Addr} {l news : List Int} (X : List Int) (hX : X = l ++ news) (hs : a.eval s = .slice A l.length c) (hx : a.eval x = .slice B news.length d) (hown : Own w base A c l) (hr : Rd w B news)
    (hlen : l.length + news.length ≤ 70368744177664) (hbase : base ≤ w.heap.size)
    (h : ∀ A' c' w', Own w' base A' c' X → w.grownBy w' (Value.slice A l.length c).ownBlock → Below base w w' → wpList Tryd.prog ops Q rest (a.put o.dst (.slice A' X.length c')) w') : wpList Tryd.prog ops Q (o :: rest) a w := by
  subst hX
  refine wpList_app hgd s x ho base hs hx hown hr hlen hbase ?_
  intro A' c' w' h1 h2 h3
  have := h A' c' w' h1 h2 h3
  rwa [List.length_append] at this
theorem own_lit4 (w : World) (l : List Int) {base : Nat} (hb : base ≤ w.heap.size) (hm : l.length ≤ 1000) : Own (w.alloc (.cells (U8 l).toArray 5)) base (some ⟨w.heap.size, 0, none⟩) l.length l :=
  Own.new (Blk.new w _ _) hb (by unfold maxLen; omega)
def KeepB (w w' : World) : Prop := ∀ q t cs, t ≠ 5 → Blk w q t cs → Blk w' q t cs
theorem number_any (A : Option Addr) (c : Nat) (P : List Int) (n : Int) (X : List Int) (base : Nat) (w : World) (ht : Tab w) (hown : Own w base A c P) (hP : P.length ≤ 100000) (hb : base ≤ w.heap.size) (h0 : 0 ≤ n) (hn : n < 4611686018427387904) (hX : X = P ++ venc n) :
    Calls Tryd.prog 35 #[.slice A P.length c, .int .u64 n] w fun r w' => ∃ A' c', r = .returned (.slice A' X.length c') ∧ Own w' base A' c' X ∧ Below base w w' ∧ KeepB w w' := by
  have CN := Lib.hid (num_ok n w ht h0 hn)
  have hv8 : (venc n).length ≤ 8 := (venc_le n h0 hn).2.1
  obtain ⟨v, hv⟩ : ∃ v, v = venc n := ⟨_, rfl⟩
  rw [← hv] at hX CN hv8
  have HX := Lib.hid hX
  have HO := Lib.hid hown
  clear hX hown hv ht hn
  go_enter Tryd.func35, Tryd.ntmps35
  go_wp2_with fail
  refine CN.out.mono ?_
  rintro r w1 ⟨A1, c1, rfl, o1, b1⟩
  have O1 := Lib.hid (HO.out.below b1)
  have R1 := Lib.hid (Rd.of_own o1)
  have B1 := Lib.hid (b1.mono hb)
  have KP := Lib.hid (show KeepB w w1 from fun q t cs _ k => k.below b1 k.lt)
  clear o1 b1 CN
  go_wp2_with (at_builtin
               go_must (refine wpList_appX rfl (.tmp 12) (.tmp 13) rfl base (l := P) (news := v) X HX.out rfl rfl O1.out R1.out (by omega) (Nat.le_trans hb B1.out.size) ?_)
               intro A3 c3 w3 o3 g3 b3
               have O3 := Lib.hid o3
               have B3 := Lib.hid (B1.out.trans b3)
               have KP3 := Lib.hid (show KeepB w w3 from fun q t cs hne k => (KP.out q t cs hne k).grown g3 (fun e => OwnV.other (e := 5) O1.out (fun h => hne h.symm) _ _ (KP.out q t cs hne k) e.symm))
               clear o3 g3 b3)
  go_ret
  exact ⟨_, _, rfl, O3.out, B3.out, KP3.out⟩
theorem typeOf_1 (A : Option Addr) (c : Nat) (w : World) : Calls Tryd.prog 36 #[FV 8 4 0 0 0 true A 2 c none 0 0 none 0 0] w fun r w' => r = .returned (.int .u64 11) ∧ Below w.heap.size w w' := by
  unfold FV
  go_enter Tryd.func36, Tryd.ntmps36
  go_wp2_with fail
  go_ret
  exact ⟨rfl, (Below.refl _ _).alloc (Nat.le_refl _) _⟩
theorem below_dN {B : Nat} {a w : World} (h : Below B a w) (n : Nat) : Below B a (w.drewN n) := ⟨h.os, h.tape, h.output, h.size, h.block⟩
theorem run_max4 (ts : Array TypeId) (t : TypeId) (x y z u : Int) (w : World) : (Builtin.max_ ts t #[.int .u64 x, .int .u64 y, .int .u64 z, .int .u64 u]).run Tryd.prog w = .ok (.int .u64 (max x (max y (max z u)))) w := by
  have e : ∀ a b : Int, (if b > a then b else a) = max a b := fun a b => by split <;> omega
  simp [Builtin.max_, Builtin.max2]
  repeat rw [Int.max_def]
  repeat' split
  all_goals first | rfl | omega
theorem encodable_any (k id off n cd : Int) (fin : Bool) (A : Option Addr) (la ca : Nat) (B : Option Addr) (lb cb : Nat) (R : Option Addr) (lr cr : Nat) (w : World) :
    Calls Tryd.prog 32 #[FV k id off n cd fin A la ca B lb cb R lr cr] w fun r w' => r = .returned (.bool (decide (max id (max cd (max off n)) ≤ 4611686018427387903))) ∧ Below w.heap.size w w' := by
  have hm := run_max4
  unfold FV
  go_enter Tryd.func32, Tryd.ntmps32
  go_wp2_with fail
  go_ret
  exact ⟨rfl, (Below.refl _ _).alloc (Nat.le_refl _) _⟩
theorem fitting_1 (A : Option Addr) (c : Nat) (w : World) : Calls Tryd.prog 33 #[FV 8 4 0 0 0 true A 2 c none 0 0 none 0 0] w fun r w' => r = .returned (.bool true) ∧ Below w.heap.size w w' := by
  unfold FV
  go_enter Tryd.func33, Tryd.ntmps33
  go_wp2_with fail
  go_ret
  exact ⟨rfl, (Below.refl _ _).alloc (Nat.le_refl _) _⟩
/-- Two ranges, 7 to 9 and 4 to 4, in a block of their own. -/
def R2 (w : World) (g : Nat) : Prop := g < w.heap.size ∧ w.cell? ⟨g, 0, none⟩ = some (.int .u64 7) ∧ w.cell? ⟨g, 1, none⟩ = some (.int .u64 9) ∧ w.cell? ⟨g, 2, none⟩ = some (.int .u64 4) ∧ w.cell? ⟨g, 3, none⟩ = some (.int .u64 4)
theorem R2.below {w w' : World} {g : Nat} (h : R2 w g) (hb : Below w.heap.size w w') : R2 w' g := by
  obtain ⟨h0, h1, h2, h3, h4⟩ := h
  exact ⟨Nat.lt_of_lt_of_le h0 hb.size, (hb.cell (p := ⟨g, 0, none⟩) h0).trans h1, (hb.cell (p := ⟨g, 1, none⟩) h0).trans h2, (hb.cell (p := ⟨g, 2, none⟩) h0).trans h3, (hb.cell (p := ⟨g, 3, none⟩) h0).trans h4⟩
theorem below_1 (w : World) : Calls Tryd.prog 52 #[.int .u64 4, .agg #[.int .u64 7, .int .u64 9]] w fun r w' => r = .returned (.bool true) ∧ Below w.heap.size w w' := by
  go_enter Tryd.func52, Tryd.ntmps52
  go_wp2_with fail
  go_ret
  exact ⟨rfl, (Below.refl _ _).alloc (Nat.le_refl _) _⟩
set_option maxHeartbeats 1600000 in
theorem falling_2 (g : Nat) (w : World) (h : R2 w g) : Calls Tryd.prog 47 #[.slice (some ⟨g, 0, none⟩) 2 2] w fun r w' => r = .returned (.bool true) ∧ Below w.heap.size w w' := by
  have c1 := h.2.2.1
  have HH := Lib.hid h
  clear h
  go_enter Tryd.func47, Tryd.ntmps47
  go_wp2_with fail
  go_loopw [17] (fun i wr => ∃ k : Nat, k ≤ 2 ∧ i = .int .i64 k ∧ Below w.heap.size w wr) (fun i _ => 2 - (intOf i).toNat)
  case atStart => exact ⟨0, by omega, rfl, Below.refl _ _⟩
  case round =>
    obtain ⟨k, hk, rfl, hbel⟩ := hrel
    have hr := HH.out.below hbel
    obtain ⟨r0, r1, r2, r3, r4⟩ := hr
    have HB := Lib.hid hbel
    clear hbel
    have hk3 : k = 0 ∨ k = 1 ∨ k = 2 := by omega
    rcases hk3 with rfl | rfl | rfl
    · have z0 : ((0 : Nat) : Int) = 0 := rfl
      rw [z0]
      clear z0
      go_wp2_with fail
      go_quiet (fail)
      go_wp2_with fail
      go_roundw
      case rel => exact ⟨1, by omega, rfl, below_dN (HB.out.alloc HB.out.size _) _⟩
      case measure => simp [intOf]
    · have z0 : ((1 : Nat) : Int) = 1 := rfl
      rw [z0]
      clear z0
      have KA := Lib.hid (show ∀ w', Below wr.heap.size wr w' → (w'.cell? ⟨g, 0, none⟩ = some (.int .u64 7) ∧ w'.cell? ⟨g, 1, none⟩ = some (.int .u64 9)) from fun w' hb => ⟨(hb.cell (p := ⟨g, 0, none⟩) r0).trans r1, (hb.cell (p := ⟨g, 1, none⟩) r0).trans r2⟩)
      have KB := Lib.hid (show ∀ w', Below (wr.alloc (.cells #[.int .u64 4, .int .u64 4] 39)).drew.heap.size (wr.alloc (.cells #[.int .u64 4, .int .u64 4] 39)).drew w' → w'.cell? ⟨wr.heap.size, 1, none⟩ = some (.int .u64 4) from fun w' hb => (Blk.below (w := (wr.alloc (.cells #[.int .u64 4, .int .u64 4] 39)).drew) (Blk.new wr 39 #[.int .u64 4, .int .u64 4]) hb (Blk.new wr _ _).lt).cell 1)
      have bal : Below wr.heap.size wr (wr.alloc (.cells #[.int .u64 4, .int .u64 4] 39)).drew := ((Below.refl _ _).alloc (Nat.le_refl _) _).drew
      have BAL := Lib.hid bal
      clear bal
      have hw0 : IntKind.i64.wrap 0 = 0 := by decide
      go_wp2_with fail
      refine wp_region_held_drew (S := fun w' => (w'.cell? ⟨g, 0, none⟩ = some (.int .u64 7) ∧ w'.cell? ⟨g, 1, none⟩ = some (.int .u64 9)) ∧ w'.cell? ⟨wr.heap.size, 1, none⟩ = some (.int .u64 4)) (by kernel_rfl) ⟨KA.out _ BAL.out, KB.out _ (Below.refl _ _)⟩ (fun hHeld => ?_)
      refine wpAnyH_take (i := 0) (oi := ⟨_, _, _, _, _, _⟩) (v := .int .i64 1) rfl (by kernel_rfl) (by kernel_rfl) (by kernel_rfl) (fun _ _ _ h => h) (Or.inl ⟨by rfl, fun w' hS => by obtain ⟨⟨h0, h1⟩, h2⟩ := hS; go_simp⟩) hHeld ?_
      simp only [Act.put, List.setIfInBounds_toArray, List.set_cons_zero, List.set_cons_succ]
      refine wpAnyH_take (i := 1) (oi := ⟨_, _, _, _, _, _⟩) (v := .bool true) rfl (by kernel_rfl) (by kernel_rfl) (by kernel_rfl) (fun _ _ _ h => h) (Or.inl ⟨by rfl, fun w' hS => by obtain ⟨⟨h0, h1⟩, h2⟩ := hS; go_simp⟩) hHeld ?_
      simp only [Act.put, List.setIfInBounds_toArray, List.set_cons_zero, List.set_cons_succ]
      refine wpAnyH_take (i := 2) (oi := ⟨_, _, _, _, _, _⟩) (v := .bool true) rfl (by kernel_rfl) (by kernel_rfl) (by kernel_rfl) (fun _ _ _ h => h) (Or.inl ⟨by rfl, fun w' hS => by obtain ⟨⟨h0, h1⟩, h2⟩ := hS; go_simp⟩) hHeld ?_
      simp only [Act.put, List.setIfInBounds_toArray, List.set_cons_zero, List.set_cons_succ]
      refine wpAnyH_take (i := 3) (oi := ⟨_, _, _, _, _, _⟩) (v := .pointer (some ⟨wr.heap.size, 1, none⟩)) rfl (by kernel_rfl) (by kernel_rfl) (by kernel_rfl) (fun _ _ _ h => h) (Or.inl ⟨by rfl, fun w' hS => by obtain ⟨⟨h0, h1⟩, h2⟩ := hS; go_simp⟩) hHeld ?_
      simp only [Act.put, List.setIfInBounds_toArray, List.set_cons_zero, List.set_cons_succ]
      refine wpAnyH_take (i := 4) (oi := ⟨_, _, _, _, _, _⟩) (v := .int .u64 4) rfl (by kernel_rfl) (by kernel_rfl) (by kernel_rfl) (fun _ _ _ h => h) (Or.inl ⟨by rfl, fun w' hS => by obtain ⟨⟨h0, h1⟩, h2⟩ := hS; go_simp⟩) hHeld ?_
      simp only [Act.put, List.setIfInBounds_toArray, List.set_cons_zero, List.set_cons_succ]
      refine wpAnyH_take (i := 5) (oi := ⟨_, _, _, _, _, _⟩) (v := .slice (some ⟨g, 0, none⟩) 2 2) rfl (by kernel_rfl) (by kernel_rfl) (by kernel_rfl) (fun _ _ _ h => h) (Or.inl ⟨by rfl, fun w' hS => by obtain ⟨⟨h0, h1⟩, h2⟩ := hS; go_simp⟩) hHeld ?_
      simp only [Act.put, List.setIfInBounds_toArray, List.set_cons_zero, List.set_cons_succ]
      refine wpAnyH_take (i := 6) (oi := ⟨_, _, _, _, _, _⟩) (v := .int .i64 1) rfl (by kernel_rfl) (by kernel_rfl) (by kernel_rfl) (fun _ _ _ h => h) (Or.inl ⟨by rfl, fun w' hS => by obtain ⟨⟨h0, h1⟩, h2⟩ := hS; go_simp⟩) hHeld ?_
      simp only [Act.put, List.setIfInBounds_toArray, List.set_cons_zero, List.set_cons_succ]
      refine wpAnyH_take (i := 7) (oi := ⟨_, _, _, _, _, _⟩) (v := .int .i64 0) rfl (by kernel_rfl) (by kernel_rfl) (by kernel_rfl) (fun _ _ _ h => h) (Or.inl ⟨by rfl, fun w' hS => by obtain ⟨⟨h0, h1⟩, h2⟩ := hS; go_simp⟩) hHeld ?_
      simp only [Act.put, List.setIfInBounds_toArray, List.set_cons_zero, List.set_cons_succ]
      refine wpAnyH_take (i := 8) (oi := ⟨_, _, _, _, _, _⟩) (v := .pointer (some ⟨g, 0, none⟩)) rfl (by kernel_rfl) (by kernel_rfl) (by kernel_rfl) (fun _ _ _ h => h) (Or.inl ⟨by rfl, fun w' hS => by obtain ⟨⟨h0, h1⟩, h2⟩ := hS; go_simp⟩) hHeld ?_
      simp only [Act.put, List.setIfInBounds_toArray, List.set_cons_zero, List.set_cons_succ]
      refine wpAnyH_take (i := 9) (oi := ⟨_, _, _, _, _, _⟩) (v := .agg #[.int .u64 7, .int .u64 9]) rfl (by kernel_rfl) (by kernel_rfl) (by kernel_rfl) (fun _ _ _ h => h) (Or.inl ⟨by rfl, fun w' hS => by obtain ⟨⟨h0, h1⟩, h2⟩ := hS; go_simp⟩) hHeld ?_
      simp only [Act.put, List.setIfInBounds_toArray, List.set_cons_zero, List.set_cons_succ]
      refine wpAnyH_ready (rs := [10]) (by kernel_rfl) (by simp) ?_
      refine AllReadyH.cons rfl (fun K hK => ?_) AllReadyH.nil
      go_simp
      refine (below_1 _).mono ?_
      rintro e w9 ⟨rfl, b9⟩
      refine hK.out _ _ ⟨KA.out _ (BAL.out.trans (b9.mono BAL.out.size)), KB.out _ b9⟩ (fun hHeld3 => ?_)
      clear hK K
      refine wpAnyH_take (i := 11) (oi := ⟨_, _, _, _, _, _⟩) (v := .bool false) rfl (by kernel_rfl) (by kernel_rfl) (by kernel_rfl) (fun _ _ _ h => h) (Or.inl ⟨by rfl, fun w' hS => by obtain ⟨⟨h0, h1⟩, h2⟩ := hS; go_simp⟩) hHeld3 ?_
      simp only [Act.put, List.setIfInBounds_toArray, List.set_cons_zero, List.set_cons_succ]
      refine wpAnyH_take (i := 12) (oi := ⟨_, _, _, _, _, _⟩) (v := .bool false) rfl (by kernel_rfl) (by kernel_rfl) (by kernel_rfl) (fun _ _ _ h => h) (Or.inl ⟨by rfl, fun w' hS => by obtain ⟨⟨h0, h1⟩, h2⟩ := hS; go_simp⟩) hHeld3 ?_
      simp only [Act.put, List.setIfInBounds_toArray, List.set_cons_zero, List.set_cons_succ]
      refine wpAnyH_done (by kernel_rfl) ?_ _
      all_goals
        have B9 := Lib.hid ((HB.out.trans (BAL.out.mono HB.out.size)).trans (b9.mono (Nat.le_trans HB.out.size BAL.out.size)))
        clear b9
        go_wp2_with fail
        go_roundw
        case rel => exact ⟨2, by omega, rfl, B9.out⟩
        case measure => simp [intOf]
    · go_wp2_with fail
      go_ret
      exact ⟨rfl, HB.out⟩
end Go.Proofs.YtfimngmpkckcdaaDoor
