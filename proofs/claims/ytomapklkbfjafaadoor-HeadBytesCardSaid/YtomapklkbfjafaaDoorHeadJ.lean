/-
  The reference's Bytes of a long head.
-/
import Derived.Test.YtomapklkbfjafaaDoorHeadI
namespace Go.Proofs.YtomapklkbfjafaaDoor
open Go.RowKit
set_option linter.unusedVariables false

theorem wp_app {o : Oper} {a : Act} {w : World} {K : Act → World → Prop} {Q : Exit → Act → World → Prop} (s x : Operand)
    (ho : o.op = .call { callee := .builtin .append, args := #[s, x], argTypes := #[22, 22] })
    (base : Nat) {c d : Nat} {A B : Option Addr} {l news : List Int} (hs : a.eval s = .slice A l.length c) (hx : a.eval x = .slice B news.length d) (hown : Own w base A c l) (hr : Rd w B news)
    (hlen : l.length + news.length ≤ 70368744177664) (hbase : base ≤ w.heap.size)
    (h : ∀ A' c' w', Own w' base A' c' (l ++ news) → w.grownBy w' (Value.slice A l.length c).ownBlock → Below base w w' → K (a.put o.dst (.slice A' (l.length + news.length) c')) w') : o.wp Tryd.prog a w K Q := by
  obtain ⟨A', c', w', hrun, h2, h3⟩ := run_app w o.type (d := d) hown hr hlen hbase
  unfold Oper.wp execOp
  simp only [ho, resolve, invoke, builtin, Sem.run_bind, Sem.run_pure, Result.andThen_ok, List.map_toArray, List.map_cons, List.map_nil, hs, hx, hrun]
  exact h _ _ _ h2 h3 ((Below.refl _ _).grown h3 hbase hown.row_ge)
def longB (lv : Int) (a b : List Int) (pn L : Int) : List Int :=
  [195 + 32 * lv, 0, 0, 0, 1, (a.length : Int)] ++ a ++ [(b.length : Int)] ++ b ++ (if lv = 0 then [0] else []) ++ wenc (4 + L) 2 ++ be pn 4
set_option maxHeartbeats 1600000 in
theorem refBytes_long (lv : Int) (A : Option Addr) (a : List Int) (c : Nat) (B : Option Addr) (b : List Int) (d : Nat) (pn L : Int) (w : World) (hL : 0 ≤ L ∧ L ≤ 16379) (hpn : 0 ≤ pn ∧ pn < 18446744073709551616) (ha : Sl w A c a) (hb : Sl w B d b) (hr : rightB true lv false a b = true) :
    Calls Tryd.prog 7 #[HV true lv false A a c B b d, .int .u64 pn, .int .i64 4, .int .i64 L] w fun r w' => ∃ A' c', r = .returned (.tuple #[.slice A' (longB lv a b pn L).length c', .int .i64 0]) ∧ Own w' w.heap.size A' c' (longB lv a b pn L) ∧ Below w.heap.size w w' := by
  have CR := fun W => Right_any true lv false A a c B b d W
  rw [hr] at CR
  have hal : a.length < 21 ∧ b.length < 21 ∧ (lv = 0 ∨ lv = 1) := by
    unfold rightB at hr
    simp at hr
    omega
  have HB := Lib.hid hb
  have HAL := Lib.hid hal
  clear hal
  obtain ⟨O, hO⟩ : ∃ O, O = longB lv a b pn L := ⟨_, rfl⟩
  rw [← hO]
  have HO := Lib.hid hO
  clear hO
  unfold HV at CR ⊢
  have CR' := Lib.hid CR
  have HA := Lib.hid ha
  clear CR hr ha hb
  have hL2 : ¬ (16379 < L) := by omega
  go_enter Tryd.func7, Tryd.ntmps7
  go_wp2_with fail
  refine (CR'.out _).mono ?_
  rintro r w1 ⟨rfl, b1⟩
  have K1 := Lib.hid ((Blk.new w 24 #[.bool true, .int .i64 lv, .bool false, .slice A a.length c, .slice B b.length d]).below b1 (by simp))
  have B1 := Lib.hid (below_al b1)
  clear b1
  go_wp2_with fail
  go_loopw [1, 10, 37] (fun x p i wr => ∃ (j : Nat) (N : List Int) (A2 : Option Addr) (c2 : Nat), j ≤ 4 ∧ i = .int .i64 j ∧ x = .int .u64 (pn / 256 ^ j) ∧ N = be pn j ∧ p = .slice A2 N.length c2 ∧ Own wr w1.heap.size A2 c2 N ∧ Below w1.heap.size w1 wr) (fun _ _ i _ => 4 - (intOf i).toNat)
  case atStart => exact ⟨0, [], none, 0, by omega, rfl, by simp, rfl, rfl, Own.nil _ _, Below.refl _ _⟩
  case round =>
    obtain ⟨j, N, A2, c2, hj, rfl, rfl, hN, rfl, hown, hbel⟩ := hrel
    by_cases hj4 : j < 4
    · obtain ⟨x, hx⟩ : ∃ x, x = pn / 256 ^ j := ⟨_, rfl⟩
      rw [← hx]
      have hx0 : 0 ≤ x := by rw [hx]; exact Int.ediv_nonneg hpn.1 (Int.pow_nonneg (by omega))
      have hx1 : x < 18446744073709551616 := by
        have : x ≤ pn := by rw [hx]; exact Int.ediv_le_self _ hpn.1
        omega
      have HX := Lib.hid hx
      have HN := Lib.hid hN
      have hle : N.length ≤ 8 := by rw [hN, be_length]; omega
      have hsz := hbel.size
      clear hx hN
      go_wp2_with (at_builtin; go_must (refine wpList_app rfl (.tmp 42) (.tmp 43) rfl wr.heap.size (l := [x % 256]) (news := N) rfl rfl (own_lit1 wr (x % 256) (Nat.le_refl _)) ((Rd.of_own hown).alloc _) (by simp; omega) (by simp) ?_); intro A' c' w' hown' hg hb)
      go_roundw
      case rel =>
        refine ⟨j + 1, [x % 256] ++ N, A', c', by omega, by go_num, ?_, ?_, ?_, hown'.base_le hsz, hbel.trans (((Below.refl _ _).alloc hsz _).trans (hb.mono hsz))⟩
        · rw [show pn / 256 ^ (j + 1) = x / 256 by rw [HX.out, Int.pow_succ, Int.ediv_ediv_of_nonneg (Int.pow_nonneg (by omega))]]
        · rw [HX.out, HN.out]; rfl
        · rw [List.length_append, List.length_singleton]
      case measure => simp [intOf]; omega
    · have hj44 : j = 4 := by omega
      have K2 := Lib.hid (K1.out.below hbel K1.out.lt)
      have B2 := Lib.hid (B1.out.trans (hbel.mono B1.out.size))
      have O2 := Lib.hid hown
      have HN := Lib.hid (show N = be pn 4 by rw [hN, hj44])
      have hNl : N.length = 4 := by rw [hN, hj44, be_length]
      have HNL := Lib.hid hNl
      have q0 := K2.out.cell 0
      have q2 := K2.out.cell 2
      have q3 := K2.out.cell 3
      have hnj : ¬ ((j : Int) < 4) := by omega
      clear hown hbel hN hj44 hNl
      have q1 := K2.out.cell 1
      have q4 := K2.out.cell 4
      obtain ⟨hal1, hbl1, hlv⟩ := HAL.out
      have hwb : IntKind.u8.wrap (b.length : Int) = (b.length : Int) := by rw [IntKind.wrap_u8]; omega
      go_wp2_with fail
      obtain ⟨P0, hP0⟩ : ∃ P0 : List Int, P0 = [192 + 32 * lv + 4 - 1, 0, 0, 0, 1, (a.length : Int)] := ⟨_, rfl⟩
      have hP0l : P0.length = 6 := by rw [hP0]; rfl
      show Code.wp _ _ _ _ (wr.alloc (.cells (U8 [192 + 32 * lv + 4 - 1, 0, 0, 0, 1, (a.length : Int)]).toArray 5))
      rw [← hP0]
      have oA := own_lit4 wr P0 (Nat.le_refl _) (by omega)
      have hwA' : wr.heap.size < (wr.alloc (.cells (U8 P0).toArray 5)).heap.size := by simp
      have bA : Below wr.heap.size wr (wr.alloc (.cells (U8 P0).toArray 5)) := (Below.refl _ _).alloc (Nat.le_refl _) _
      generalize wr.alloc (.cells (U8 P0).toArray 5) = wA at oA bA hwA' ⊢
      rw [hP0l] at oA
      have hwA := bA.size
      have kA := K2.out.below bA K2.out.lt
      have hgl := K2.out.lt
      have KS := Lib.hid (show ∀ w', Below wr.heap.size wA.drew w' → (w'.cell? ⟨w.heap.size, 3, none⟩ = some (.slice A a.length c) ∧ w'.cell? ⟨w.heap.size, 4, none⟩ = some (.slice B b.length d)) from fun w' hb => by
        have k := (show Blk wA.drew w.heap.size _ _ from kA).below hb hgl
        exact ⟨k.cell 3, k.cell 4⟩)
      have RA := Lib.hid (show ∀ w', Below wr.heap.size wA.drew w' → Rd w' A a from fun w' hb => (HA.out.rd.below B2.out).below ((bA.drew).trans hb))
      have RB := Lib.hid (show ∀ w', Below wr.heap.size wA.drew w' → Rd w' B b from fun w' hb => (HB.out.rd.below B2.out).below ((bA.drew).trans hb))
      have RN := Lib.hid (show ∀ w', Below wr.heap.size wA.drew w' → Rd w' A2 N from fun w' hb => (Rd.of_own O2.out).below ((bA.drew).trans hb))
      have OA := Lib.hid (show Own wA.drew wr.heap.size (some ⟨wr.heap.size, 0, none⟩) 6 P0 from oA)
      have BA := Lib.hid bA.drew
      have HP0 := Lib.hid hP0
      have hP0L := Lib.hid hP0l
      clear oA bA kA hP0 hP0l
      refine wp_region_held_drew (S := fun w' => w'.cell? ⟨w.heap.size, 3, none⟩ = some (.slice A a.length c) ∧ w'.cell? ⟨w.heap.size, 4, none⟩ = some (.slice B b.length d)) (by kernel_rfl) (KS.out _ (Below.refl _ _)) (fun hHeld => ?_)
      refine wpAnyH_take (i := 0) (oi := ⟨_, _, _, _, _, _⟩) (v := .slice (some ⟨wr.heap.size, 0, none⟩) 6 6) rfl (by kernel_rfl) (by kernel_rfl) (by kernel_rfl) (fun _ _ _ h => h) (Or.inl ⟨by rfl, fun w _ => rfl⟩) hHeld ?_
      simp only [Act.put, List.setIfInBounds_toArray, List.set_cons_zero, List.set_cons_succ]
      refine wpAnyH_take (i := 1) (oi := ⟨_, _, _, _, _, _⟩) (v := .pointer (some ⟨w.heap.size, 3, none⟩)) rfl (by kernel_rfl) (by kernel_rfl) (by kernel_rfl) (fun _ _ _ h => h) (Or.inl ⟨by rfl, fun w' hS => by obtain ⟨h3, h4⟩ := hS; go_simp⟩) hHeld ?_
      simp only [Act.put, List.setIfInBounds_toArray, List.set_cons_zero, List.set_cons_succ]
      refine wpAnyH_take (i := 2) (oi := ⟨_, _, _, _, _, _⟩) (v := .slice A a.length c) rfl (by kernel_rfl) (by kernel_rfl) (by kernel_rfl) (fun _ _ _ h => h) (Or.inl ⟨by rfl, fun w' hS => by obtain ⟨h3, h4⟩ := hS; go_simp⟩) hHeld ?_
      simp only [Act.put, List.setIfInBounds_toArray, List.set_cons_zero, List.set_cons_succ]
      refine wpAnyH_take (i := 4) (oi := ⟨_, _, _, _, _, _⟩) (v := .pointer (some ⟨w.heap.size, 4, none⟩)) rfl (by kernel_rfl) (by kernel_rfl) (by kernel_rfl) (fun _ _ _ h => h) (Or.inl ⟨by rfl, fun w' hS => by obtain ⟨h3, h4⟩ := hS; go_simp⟩) hHeld ?_
      simp only [Act.put, List.setIfInBounds_toArray, List.set_cons_zero, List.set_cons_succ]
      refine wpAnyH_take (i := 5) (oi := ⟨_, _, _, _, _, _⟩) (v := .slice B b.length d) rfl (by kernel_rfl) (by kernel_rfl) (by kernel_rfl) (fun _ _ _ h => h) (Or.inl ⟨by rfl, fun w' hS => by obtain ⟨h3, h4⟩ := hS; go_simp⟩) hHeld ?_
      simp only [Act.put, List.setIfInBounds_toArray, List.set_cons_zero, List.set_cons_succ]
      refine wpAnyH_take (i := 6) (oi := ⟨_, _, _, _, _, _⟩) (v := .int .i64 (b.length : Int)) rfl (by kernel_rfl) (by kernel_rfl) (by kernel_rfl) (fun _ _ _ h => h) (Or.inl ⟨by rfl, fun w' hS => by obtain ⟨h3, h4⟩ := hS; go_simp⟩) hHeld ?_
      simp only [Act.put, List.setIfInBounds_toArray, List.set_cons_zero, List.set_cons_succ]
      refine wpAnyH_take (i := 7) (oi := ⟨_, _, _, _, _, _⟩) (v := .int .u8 (b.length : Int)) rfl (by kernel_rfl) (by kernel_rfl) (by kernel_rfl) (fun _ _ _ h => h) (Or.inl ⟨by rfl, fun w' hS => by obtain ⟨h3, h4⟩ := hS; go_simp⟩) hHeld ?_
      simp only [Act.put, List.setIfInBounds_toArray, List.set_cons_zero, List.set_cons_succ]
      refine wpAnyH_ready (rs := [3, 8]) (by kernel_rfl) (by simp) ?_
      refine AllReadyH.cons rfl (fun K hK => ?_) (AllReadyH.cons rfl (fun K hK => ?_) AllReadyH.nil)
      · rw [if_pos (by rfl)]
        refine wp_app (.tmp 79) (.tmp 81) rfl wr.heap.size (A := some ⟨wr.heap.size, 0, none⟩) (c := 6) (l := P0) (B := A) (d := c) (news := a) (by rw [hP0L.out]; rfl) rfl OA.out (RA.out _ (Below.refl _ _)) (by rw [hP0L.out]; omega) hwA ?_
        intro A3 c3 w3 o3 g3 b3
        refine hK.out _ _ (KS.out _ b3) (fun hHeld3 => ?_)
        clear hK K
        refine wpAnyH_ready (rs := [8]) (by kernel_rfl) (by simp) ?_
        refine AllReadyH.cons rfl (fun K hK => ?_) AllReadyH.nil
        go_simp
        have b3' : Below wr.heap.size wA.drew (w3.alloc (.cells #[.int .u8 (b.length : Int)] 5)) := b3.alloc (Nat.le_trans hwA b3.size) _
        refine hK.out _ _ (KS.out _ b3') (fun hHeld4 => ?_)
        clear hK K
        refine wpAnyH_ready (rs := [9]) (by kernel_rfl) (by simp) ?_
        refine AllReadyH.cons rfl (fun K hK => ?_) AllReadyH.nil
        rw [if_pos (by rfl)]
        refine wp_app (.tmp 82) (.tmp 87) rfl wr.heap.size (A := A3) (c := c3) (l := P0 ++ a) (B := some ⟨w3.heap.size, 0, none⟩) (d := 1) (news := [(b.length : Int)]) (by rw [List.length_append]; rfl) rfl (Own.below o3 ((Below.refl _ _).alloc (Nat.le_refl _) _)) (Rd.of_own (own_lit1 w3 (b.length : Int) (Nat.le_refl _))) (by rw [List.length_append, hP0L.out]; simp; omega) (by have := b3'.size; have := hwA; simp at *; omega) ?_
        intro A4 c4 w4 o4 g4 b4'
        have b4 : Below wr.heap.size wA.drew w4 := b3'.trans b4'
        refine hK.out _ _ (KS.out _ b4) (fun hHeld5 => ?_)
        clear hK K
        refine wpAnyH_take (i := 10) (oi := ⟨_, _, _, _, _, _⟩) (v := .slice A4 ((P0 ++ a).length + 1) c4) rfl (by kernel_rfl) (by kernel_rfl) (by kernel_rfl) (fun _ _ _ h => h) (Or.inl ⟨by rfl, fun w _ => rfl⟩) hHeld5 ?_
        simp only [Act.put, List.setIfInBounds_toArray]
        refine wpAnyH_done (by kernel_rfl) ?_ _
        have K4 := Lib.hid (show Blk w4 w.heap.size 24 #[.bool true, .int .i64 lv, .bool false, .slice A a.length c, .slice B b.length d] from (K2.out.below (BA.out.trans b4) hgl))
        have RNF := Lib.hid (show ∀ w', Below wr.heap.size wr w' → Rd w' A2 N from fun w' hb => (Rd.of_own O2.out).below hb)
        have RB4 := Lib.hid (RB.out _ b4)
        have HW4 := Lib.hid (show wr.heap.size ≤ w4.heap.size from Nat.le_trans hwA b4.size)
        have BL4 := Lib.hid (show Below wr.heap.size wr w4 from BA.out.trans b4)
        obtain ⟨P1, hP1⟩ : ∃ P1, P1 = P0 ++ a ++ [(b.length : Int)] := ⟨_, rfl⟩
        have hP1l : P1.length = (P0 ++ a).length + 1 := by rw [hP1, List.length_append]; rfl
        have hP1b : P1.length ≤ 40 := by rw [hP1l, List.length_append, hP0L.out]; omega
        rw [← hP1] at o4
        have O4 := Lib.hid o4
        rw [show (P0 ++ a).length + 1 = P1.length from hP1l.symm]
        have HP1 := Lib.hid hP1
        have HP1B := Lib.hid hP1b
        have hx4 : w4.cell? ⟨w.heap.size, 4, none⟩ = some (.slice B b.length d) := K4.out.cell 4
        clear hP1 hP1l hP1b o4 KS RA RB RN b4 q0 q1 q2 q3 q4
        have hlv2 := hlv
        rcases hlv2 with rfl | rfl
        · go_wp2_with (first
            | (refine wpList_app rfl (.tmp 89) (.tmp 91) rfl wr.heap.size (A := A4) (c := c4) (l := P1) (B := B) (d := d) (news := b) rfl rfl O4.out RB4.out (by have := HP1B.out; omega) HW4.out ?_
               intro A5 c5 w5 o5 g5 b5
               have K5 := Lib.hid (K4.out.below b5 hgl)
               have BL5 := Lib.hid (BL4.out.trans b5)
               have HW5 := Lib.hid (Nat.le_trans HW4.out b5.size)
               obtain ⟨P2, hP2⟩ : ∃ P2, P2 = P1 ++ b := ⟨_, rfl⟩
               rw [← hP2] at o5
               have O5 := Lib.hid o5
               have hP2l : P2.length = P1.length + b.length := by rw [hP2, List.length_append]
               have HP2 := Lib.hid hP2
               have HP2B := Lib.hid (show P2.length ≤ 70 by have := HP1B.out; omega)
               rw [← hP2l]
               have x51 : w5.cell? ⟨w.heap.size, 1, none⟩ = some (.int .i64 0) := K5.out.cell 1
               clear hP2 hP2l o5 g5 b5)
            | (refine wpList_app rfl (.tmp 96) (.tmp 97) rfl wr.heap.size (A := A5) (c := c5) (l := P2) (B := some ⟨w5.heap.size, 0, none⟩) (d := 1) (news := [0]) rfl rfl (Own.below O5.out ((Below.refl _ _).alloc (Nat.le_refl _) _)) (Rd.of_own (own_lit1 w5 0 (Nat.le_refl _))) (by have := HP2B.out; simp; omega) (by have := HW5.out; simp; omega) ?_
               intro A6 c6 w6 o6 g6 b6
               have BL6 := Lib.hid (BL5.out.trans (((Below.refl wr.heap.size w5).alloc HW5.out _).trans b6))
               have HW6 := Lib.hid (show wr.heap.size ≤ w6.heap.size from BL6.out.size)
               obtain ⟨P3, hP3⟩ : ∃ P3, P3 = P2 ++ [0] := ⟨_, rfl⟩
               rw [← hP3] at o6
               have O6 := Lib.hid o6
               have hP3l : P3.length = P2.length + 1 := by rw [hP3, List.length_append]; rfl
               have HP3 := Lib.hid hP3
               have HP3B := Lib.hid (show P3.length ≤ 80 by have := HP2B.out; omega)
               rw [show P2.length + ([0] : List Int).length = P3.length from hP3l.symm]
               clear hP3 hP3l o6 g6 b6))
          have CW := Lib.hid (refWide_ok (4 + L) 2 2 16384 1 w6 (by unfold IsSize; omega) (by omega) (by omega))
          have hwl : (wenc (4 + L) 2).length = 2 := wenc_length _ _ (by omega)
          obtain ⟨X, hX⟩ : ∃ X, X = wenc (4 + L) 2 := ⟨_, rfl⟩
          rw [← hX] at CW hwl
          have HX := Lib.hid hX
          have HXL := Lib.hid hwl
          clear hX hwl
          refine CW.out.mono ?_
          rintro z w7 ⟨A7, c7, rfl, o7, b7⟩
          have b67 : Below wr.heap.size w6 w7 := b7.mono HW6.out
          have BL7 := Lib.hid (BL6.out.trans b67)
          have HW7 := Lib.hid (show wr.heap.size ≤ w7.heap.size from Nat.le_trans HW6.out b7.size)
          have O7 := Lib.hid (Own.below O6.out b7)
          have RX7 := Lib.hid (Rd.of_own o7)
          have hO : P3 ++ X ++ N = O := by
            rw [HO.out, HP3.out, HP2.out, HP1.out, HP0.out, HX.out, HN.out]
            simp [longB]
          have HOO := Lib.hid hO
          have hOl : (P3 ++ X).length + N.length = O.length := by rw [← hO]; simp only [List.length_append]
          have HOL := Lib.hid hOl
          clear o7 b7 b67 hO hOl CW
          go_wp2_with (first
            | (refine wpList_app rfl (.tmp 107) (.tmp 108) rfl wr.heap.size (A := A6) (c := c6) (l := P3) (B := A7) (d := c7) (news := X) rfl rfl O7.out RX7.out (by have := HP3B.out; have := HXL.out; omega) HW7.out ?_
               intro A8 c8 w8 o8 g8 b8
               have O8 := Lib.hid o8
               have BL8 := Lib.hid (BL7.out.trans b8)
               have HW8 := Lib.hid (show wr.heap.size ≤ w8.heap.size from BL8.out.size)
               clear o8 g8 b8)
            | (refine wpList_app rfl (.tmp 109) (.tmp 110) rfl wr.heap.size (A := A8) (c := c8) (l := P3 ++ X) (B := A2) (d := c2) (news := N) (by rw [List.length_append]; rfl) rfl O8.out (RNF.out _ BL8.out) (by have h1 := HP3B.out; have h2 := HXL.out; have h3 := HNL.out; rw [List.length_append]; omega) HW8.out ?_
               intro A9 c9 w9 o9 g9 b9
               have O9 := Lib.hid (show Own w9 wr.heap.size A9 c9 O by rw [← HOO.out]; exact o9)
               have BL9 := Lib.hid (BL8.out.trans b9)
               rw [HOL.out]
               clear o9 g9 b9))
          go_ret2
          exact ⟨_, _, rfl, O9.out.base_le B2.out.size, B2.out.trans (BL9.out.mono B2.out.size)⟩
        · go_wp2_with (first
            | (refine wpList_app rfl (.tmp 89) (.tmp 91) rfl wr.heap.size (A := A4) (c := c4) (l := P1) (B := B) (d := d) (news := b) rfl rfl O4.out RB4.out (by have := HP1B.out; omega) HW4.out ?_
               intro A5 c5 w5 o5 g5 b5
               have K5 := Lib.hid (K4.out.below b5 hgl)
               have BL5 := Lib.hid (BL4.out.trans b5)
               have HW5 := Lib.hid (Nat.le_trans HW4.out b5.size)
               obtain ⟨P2, hP2⟩ : ∃ P2, P2 = P1 ++ b := ⟨_, rfl⟩
               rw [← hP2] at o5
               have O5 := Lib.hid o5
               have hP2l : P2.length = P1.length + b.length := by rw [hP2, List.length_append]
               have HP2 := Lib.hid hP2
               have HP2B := Lib.hid (show P2.length ≤ 70 by have := HP1B.out; omega)
               rw [← hP2l]
               have x51 : w5.cell? ⟨w.heap.size, 1, none⟩ = some (.int .i64 1) := K5.out.cell 1
               clear hP2 hP2l o5 g5 b5))
          have BL6 := BL5
          have HW6 := HW5
          obtain ⟨P3, hP3⟩ : ∃ P3, P3 = P2 := ⟨_, rfl⟩
          obtain ⟨w6, hw6⟩ : ∃ w6, w6 = w5 := ⟨_, rfl⟩
          rw [← hP3] at O5 HP2B HP2 ⊢
          rw [← hw6] at O5 BL6 HW6 ⊢
          have O6 := O5
          have HP3B := Lib.hid (show P3.length ≤ 80 by have := HP2B.out; omega)
          have HP3 := Lib.hid hP3
          obtain ⟨A6, hA6⟩ : ∃ A6, A6 = A5 := ⟨_, rfl⟩
          obtain ⟨c6, hc6⟩ : ∃ c6, c6 = c5 := ⟨_, rfl⟩
          rw [← hA6, ← hc6] at O6 ⊢
          clear hP3 hw6 hA6 hc6
          have CW := Lib.hid (refWide_ok (4 + L) 2 2 16384 1 w6 (by unfold IsSize; omega) (by omega) (by omega))
          have hwl : (wenc (4 + L) 2).length = 2 := wenc_length _ _ (by omega)
          obtain ⟨X, hX⟩ : ∃ X, X = wenc (4 + L) 2 := ⟨_, rfl⟩
          rw [← hX] at CW hwl
          have HX := Lib.hid hX
          have HXL := Lib.hid hwl
          clear hX hwl
          refine CW.out.mono ?_
          rintro z w7 ⟨A7, c7, rfl, o7, b7⟩
          have b67 : Below wr.heap.size w6 w7 := b7.mono HW6.out
          have BL7 := Lib.hid (BL6.out.trans b67)
          have HW7 := Lib.hid (show wr.heap.size ≤ w7.heap.size from Nat.le_trans HW6.out b7.size)
          have O7 := Lib.hid (Own.below O6.out b7)
          have RX7 := Lib.hid (Rd.of_own o7)
          have hO : P3 ++ X ++ N = O := by
            rw [HO.out, HP2.out, HP1.out, HP0.out, HX.out, HN.out]
            simp [longB]
          have HOO := Lib.hid hO
          have hOl : (P3 ++ X).length + N.length = O.length := by rw [← hO]; simp only [List.length_append]
          have HOL := Lib.hid hOl
          clear o7 b7 b67 hO hOl CW
          go_wp2_with (first
            | (refine wpList_app rfl (.tmp 107) (.tmp 108) rfl wr.heap.size (A := A6) (c := c6) (l := P3) (B := A7) (d := c7) (news := X) rfl rfl O7.out RX7.out (by have := HP3B.out; have := HXL.out; omega) HW7.out ?_
               intro A8 c8 w8 o8 g8 b8
               have O8 := Lib.hid o8
               have BL8 := Lib.hid (BL7.out.trans b8)
               have HW8 := Lib.hid (show wr.heap.size ≤ w8.heap.size from BL8.out.size)
               clear o8 g8 b8)
            | (refine wpList_app rfl (.tmp 109) (.tmp 110) rfl wr.heap.size (A := A8) (c := c8) (l := P3 ++ X) (B := A2) (d := c2) (news := N) (by rw [List.length_append]; rfl) rfl O8.out (RNF.out _ BL8.out) (by have h1 := HP3B.out; have h2 := HXL.out; have h3 := HNL.out; rw [List.length_append]; omega) HW8.out ?_
               intro A9 c9 w9 o9 g9 b9
               have O9 := Lib.hid (show Own w9 wr.heap.size A9 c9 O by rw [← HOO.out]; exact o9)
               have BL9 := Lib.hid (BL8.out.trans b9)
               rw [HOL.out]
               clear o9 g9 b9))
          go_ret2
          exact ⟨_, _, rfl, O9.out.base_le B2.out.size, B2.out.trans (BL9.out.mono B2.out.size)⟩
      · go_simp
        have b3 : Below wr.heap.size wA.drew (wA.drew.alloc (.cells #[.int .u8 (b.length : Int)] 5)) := (Below.refl wr.heap.size wA.drew).alloc hwA _
        refine hK.out _ _ (KS.out _ b3) (fun hHeld3 => ?_)
        clear hK K
        refine wpAnyH_ready (rs := [3]) (by kernel_rfl) (by simp) ?_
        refine AllReadyH.cons rfl (fun K hK => ?_) AllReadyH.nil
        rw [if_pos (by rfl)]
        refine wp_app (.tmp 79) (.tmp 81) rfl wr.heap.size (A := some ⟨wr.heap.size, 0, none⟩) (c := 6) (l := P0) (B := A) (d := c) (news := a) (by rw [hP0L.out]; rfl) rfl (Own.below OA.out ((Below.refl _ _).alloc (Nat.le_refl _) _)) (RA.out _ b3) (by rw [hP0L.out]; omega) (Nat.le_trans hwA b3.size) ?_
        intro A3 c3 w3 o3 g3 b3x
        have b3' : Below wr.heap.size wA.drew w3 := b3.trans b3x
        have rl : Rd w3 (some ⟨wA.heap.size, 0, none⟩) [(b.length : Int)] := by
          have kl : Blk (wA.drew.alloc (.cells #[.int .u8 (b.length : Int)] 5)) wA.heap.size 5 (U8 [(b.length : Int)]).toArray := Blk.new wA.drew _ _
          exact Rd.of_own (Own.new (base := 0) (kl.grown g3 (fun h => by have h' : wA.heap.size = wr.heap.size := (Option.some.inj h); omega)) (Nat.zero_le _) (by simp [maxLen]))
        refine hK.out _ _ (KS.out _ b3') (fun hHeld4 => ?_)
        clear hK K
        refine wpAnyH_ready (rs := [9]) (by kernel_rfl) (by simp) ?_
        refine AllReadyH.cons rfl (fun K hK => ?_) AllReadyH.nil
        rw [if_pos (by rfl)]
        refine wp_app (.tmp 82) (.tmp 87) rfl wr.heap.size (A := A3) (c := c3) (l := P0 ++ a) (B := some ⟨wA.heap.size, 0, none⟩) (d := 1) (news := [(b.length : Int)]) (by rw [List.length_append]; rfl) rfl o3 rl (by rw [List.length_append, hP0L.out]; simp; omega) (Nat.le_trans hwA b3'.size) ?_
        intro A4 c4 w4 o4 g4 b4'
        have b4 : Below wr.heap.size wA.drew w4 := b3'.trans b4'
        refine hK.out _ _ (KS.out _ b4) (fun hHeld5 => ?_)
        clear hK K
        refine wpAnyH_take (i := 10) (oi := ⟨_, _, _, _, _, _⟩) (v := .slice A4 ((P0 ++ a).length + 1) c4) rfl (by kernel_rfl) (by kernel_rfl) (by kernel_rfl) (fun _ _ _ h => h) (Or.inl ⟨by rfl, fun w _ => rfl⟩) hHeld5 ?_
        simp only [Act.put, List.setIfInBounds_toArray]
        refine wpAnyH_done (by kernel_rfl) ?_ _
        have K4 := Lib.hid (show Blk w4 w.heap.size 24 #[.bool true, .int .i64 lv, .bool false, .slice A a.length c, .slice B b.length d] from (K2.out.below (BA.out.trans b4) hgl))
        have RNF := Lib.hid (show ∀ w', Below wr.heap.size wr w' → Rd w' A2 N from fun w' hb => (Rd.of_own O2.out).below hb)
        have RB4 := Lib.hid (RB.out _ b4)
        have HW4 := Lib.hid (show wr.heap.size ≤ w4.heap.size from Nat.le_trans hwA b4.size)
        have BL4 := Lib.hid (show Below wr.heap.size wr w4 from BA.out.trans b4)
        obtain ⟨P1, hP1⟩ : ∃ P1, P1 = P0 ++ a ++ [(b.length : Int)] := ⟨_, rfl⟩
        have hP1l : P1.length = (P0 ++ a).length + 1 := by rw [hP1, List.length_append]; rfl
        have hP1b : P1.length ≤ 40 := by rw [hP1l, List.length_append, hP0L.out]; omega
        rw [← hP1] at o4
        have O4 := Lib.hid o4
        rw [show (P0 ++ a).length + 1 = P1.length from hP1l.symm]
        have HP1 := Lib.hid hP1
        have HP1B := Lib.hid hP1b
        have hx4 : w4.cell? ⟨w.heap.size, 4, none⟩ = some (.slice B b.length d) := K4.out.cell 4
        clear hP1 hP1l hP1b o4 KS RA RB RN b4 q0 q1 q2 q3 q4
        have hlv2 := hlv
        rcases hlv2 with rfl | rfl
        · go_wp2_with (first
            | (refine wpList_app rfl (.tmp 89) (.tmp 91) rfl wr.heap.size (A := A4) (c := c4) (l := P1) (B := B) (d := d) (news := b) rfl rfl O4.out RB4.out (by have := HP1B.out; omega) HW4.out ?_
               intro A5 c5 w5 o5 g5 b5
               have K5 := Lib.hid (K4.out.below b5 hgl)
               have BL5 := Lib.hid (BL4.out.trans b5)
               have HW5 := Lib.hid (Nat.le_trans HW4.out b5.size)
               obtain ⟨P2, hP2⟩ : ∃ P2, P2 = P1 ++ b := ⟨_, rfl⟩
               rw [← hP2] at o5
               have O5 := Lib.hid o5
               have hP2l : P2.length = P1.length + b.length := by rw [hP2, List.length_append]
               have HP2 := Lib.hid hP2
               have HP2B := Lib.hid (show P2.length ≤ 70 by have := HP1B.out; omega)
               rw [← hP2l]
               have x51 : w5.cell? ⟨w.heap.size, 1, none⟩ = some (.int .i64 0) := K5.out.cell 1
               clear hP2 hP2l o5 g5 b5)
            | (refine wpList_app rfl (.tmp 96) (.tmp 97) rfl wr.heap.size (A := A5) (c := c5) (l := P2) (B := some ⟨w5.heap.size, 0, none⟩) (d := 1) (news := [0]) rfl rfl (Own.below O5.out ((Below.refl _ _).alloc (Nat.le_refl _) _)) (Rd.of_own (own_lit1 w5 0 (Nat.le_refl _))) (by have := HP2B.out; simp; omega) (by have := HW5.out; simp; omega) ?_
               intro A6 c6 w6 o6 g6 b6
               have BL6 := Lib.hid (BL5.out.trans (((Below.refl wr.heap.size w5).alloc HW5.out _).trans b6))
               have HW6 := Lib.hid (show wr.heap.size ≤ w6.heap.size from BL6.out.size)
               obtain ⟨P3, hP3⟩ : ∃ P3, P3 = P2 ++ [0] := ⟨_, rfl⟩
               rw [← hP3] at o6
               have O6 := Lib.hid o6
               have hP3l : P3.length = P2.length + 1 := by rw [hP3, List.length_append]; rfl
               have HP3 := Lib.hid hP3
               have HP3B := Lib.hid (show P3.length ≤ 80 by have := HP2B.out; omega)
               rw [show P2.length + ([0] : List Int).length = P3.length from hP3l.symm]
               clear hP3 hP3l o6 g6 b6))
          have CW := Lib.hid (refWide_ok (4 + L) 2 2 16384 1 w6 (by unfold IsSize; omega) (by omega) (by omega))
          have hwl : (wenc (4 + L) 2).length = 2 := wenc_length _ _ (by omega)
          obtain ⟨X, hX⟩ : ∃ X, X = wenc (4 + L) 2 := ⟨_, rfl⟩
          rw [← hX] at CW hwl
          have HX := Lib.hid hX
          have HXL := Lib.hid hwl
          clear hX hwl
          refine CW.out.mono ?_
          rintro z w7 ⟨A7, c7, rfl, o7, b7⟩
          have b67 : Below wr.heap.size w6 w7 := b7.mono HW6.out
          have BL7 := Lib.hid (BL6.out.trans b67)
          have HW7 := Lib.hid (show wr.heap.size ≤ w7.heap.size from Nat.le_trans HW6.out b7.size)
          have O7 := Lib.hid (Own.below O6.out b7)
          have RX7 := Lib.hid (Rd.of_own o7)
          have hO : P3 ++ X ++ N = O := by
            rw [HO.out, HP3.out, HP2.out, HP1.out, HP0.out, HX.out, HN.out]
            simp [longB]
          have HOO := Lib.hid hO
          have hOl : (P3 ++ X).length + N.length = O.length := by rw [← hO]; simp only [List.length_append]
          have HOL := Lib.hid hOl
          clear o7 b7 b67 hO hOl CW
          go_wp2_with (first
            | (refine wpList_app rfl (.tmp 107) (.tmp 108) rfl wr.heap.size (A := A6) (c := c6) (l := P3) (B := A7) (d := c7) (news := X) rfl rfl O7.out RX7.out (by have := HP3B.out; have := HXL.out; omega) HW7.out ?_
               intro A8 c8 w8 o8 g8 b8
               have O8 := Lib.hid o8
               have BL8 := Lib.hid (BL7.out.trans b8)
               have HW8 := Lib.hid (show wr.heap.size ≤ w8.heap.size from BL8.out.size)
               clear o8 g8 b8)
            | (refine wpList_app rfl (.tmp 109) (.tmp 110) rfl wr.heap.size (A := A8) (c := c8) (l := P3 ++ X) (B := A2) (d := c2) (news := N) (by rw [List.length_append]; rfl) rfl O8.out (RNF.out _ BL8.out) (by have h1 := HP3B.out; have h2 := HXL.out; have h3 := HNL.out; rw [List.length_append]; omega) HW8.out ?_
               intro A9 c9 w9 o9 g9 b9
               have O9 := Lib.hid (show Own w9 wr.heap.size A9 c9 O by rw [← HOO.out]; exact o9)
               have BL9 := Lib.hid (BL8.out.trans b9)
               rw [HOL.out]
               clear o9 g9 b9))
          go_ret2
          exact ⟨_, _, rfl, O9.out.base_le B2.out.size, B2.out.trans (BL9.out.mono B2.out.size)⟩
        · go_wp2_with (first
            | (refine wpList_app rfl (.tmp 89) (.tmp 91) rfl wr.heap.size (A := A4) (c := c4) (l := P1) (B := B) (d := d) (news := b) rfl rfl O4.out RB4.out (by have := HP1B.out; omega) HW4.out ?_
               intro A5 c5 w5 o5 g5 b5
               have K5 := Lib.hid (K4.out.below b5 hgl)
               have BL5 := Lib.hid (BL4.out.trans b5)
               have HW5 := Lib.hid (Nat.le_trans HW4.out b5.size)
               obtain ⟨P2, hP2⟩ : ∃ P2, P2 = P1 ++ b := ⟨_, rfl⟩
               rw [← hP2] at o5
               have O5 := Lib.hid o5
               have hP2l : P2.length = P1.length + b.length := by rw [hP2, List.length_append]
               have HP2 := Lib.hid hP2
               have HP2B := Lib.hid (show P2.length ≤ 70 by have := HP1B.out; omega)
               rw [← hP2l]
               have x51 : w5.cell? ⟨w.heap.size, 1, none⟩ = some (.int .i64 1) := K5.out.cell 1
               clear hP2 hP2l o5 g5 b5))
          have BL6 := BL5
          have HW6 := HW5
          obtain ⟨P3, hP3⟩ : ∃ P3, P3 = P2 := ⟨_, rfl⟩
          obtain ⟨w6, hw6⟩ : ∃ w6, w6 = w5 := ⟨_, rfl⟩
          rw [← hP3] at O5 HP2B HP2 ⊢
          rw [← hw6] at O5 BL6 HW6 ⊢
          have O6 := O5
          have HP3B := Lib.hid (show P3.length ≤ 80 by have := HP2B.out; omega)
          have HP3 := Lib.hid hP3
          obtain ⟨A6, hA6⟩ : ∃ A6, A6 = A5 := ⟨_, rfl⟩
          obtain ⟨c6, hc6⟩ : ∃ c6, c6 = c5 := ⟨_, rfl⟩
          rw [← hA6, ← hc6] at O6 ⊢
          clear hP3 hw6 hA6 hc6
          have CW := Lib.hid (refWide_ok (4 + L) 2 2 16384 1 w6 (by unfold IsSize; omega) (by omega) (by omega))
          have hwl : (wenc (4 + L) 2).length = 2 := wenc_length _ _ (by omega)
          obtain ⟨X, hX⟩ : ∃ X, X = wenc (4 + L) 2 := ⟨_, rfl⟩
          rw [← hX] at CW hwl
          have HX := Lib.hid hX
          have HXL := Lib.hid hwl
          clear hX hwl
          refine CW.out.mono ?_
          rintro z w7 ⟨A7, c7, rfl, o7, b7⟩
          have b67 : Below wr.heap.size w6 w7 := b7.mono HW6.out
          have BL7 := Lib.hid (BL6.out.trans b67)
          have HW7 := Lib.hid (show wr.heap.size ≤ w7.heap.size from Nat.le_trans HW6.out b7.size)
          have O7 := Lib.hid (Own.below O6.out b7)
          have RX7 := Lib.hid (Rd.of_own o7)
          have hO : P3 ++ X ++ N = O := by
            rw [HO.out, HP2.out, HP1.out, HP0.out, HX.out, HN.out]
            simp [longB]
          have HOO := Lib.hid hO
          have hOl : (P3 ++ X).length + N.length = O.length := by rw [← hO]; simp only [List.length_append]
          have HOL := Lib.hid hOl
          clear o7 b7 b67 hO hOl CW
          go_wp2_with (first
            | (refine wpList_app rfl (.tmp 107) (.tmp 108) rfl wr.heap.size (A := A6) (c := c6) (l := P3) (B := A7) (d := c7) (news := X) rfl rfl O7.out RX7.out (by have := HP3B.out; have := HXL.out; omega) HW7.out ?_
               intro A8 c8 w8 o8 g8 b8
               have O8 := Lib.hid o8
               have BL8 := Lib.hid (BL7.out.trans b8)
               have HW8 := Lib.hid (show wr.heap.size ≤ w8.heap.size from BL8.out.size)
               clear o8 g8 b8)
            | (refine wpList_app rfl (.tmp 109) (.tmp 110) rfl wr.heap.size (A := A8) (c := c8) (l := P3 ++ X) (B := A2) (d := c2) (news := N) (by rw [List.length_append]; rfl) rfl O8.out (RNF.out _ BL8.out) (by have h1 := HP3B.out; have h2 := HXL.out; have h3 := HNL.out; rw [List.length_append]; omega) HW8.out ?_
               intro A9 c9 w9 o9 g9 b9
               have O9 := Lib.hid (show Own w9 wr.heap.size A9 c9 O by rw [← HOO.out]; exact o9)
               have BL9 := Lib.hid (BL8.out.trans b9)
               rw [HOL.out]
               clear o9 g9 b9))
          go_ret2
          exact ⟨_, _, rfl, O9.out.base_le B2.out.size, B2.out.trans (BL9.out.mono B2.out.size)⟩
end Go.Proofs.YtomapklkbfjafaaDoor
