/-
  The reference's Send (its region 7 written by wip/tools/mkSend.py).
-/
import Derived.Test.YtefhbiocddgijaaRLossG
import Derived.Test.YtefhbiocddgijaaStepV
import Derived.Deep.RegionLaw
import Derived.Deep.RegionHeld
import Derived.Deep.DeepCutAuto
import Derived.Deep.CutBlock
namespace Go.Proofs.Ytefhbiocddgijaa
open Go.RowKit
set_option linter.unusedVariables false
set_option linter.unusedSimpArgs false
def sendR (l : RG) (p : RPk) : Int := if p.si < 0 ∨ 4611686018427387903 < p.nu ∨ 4611686018427387903 < p.se then 1 else if p.nu < l.nx then 4 else 0
def rSend (l : RG) (p : RPk) : RG := if sendR l p = 0 then ⟨l.op ++ [p], p.nu + 1, l.ak, l.hs⟩ else l
theorem own_e0 {w : World} {base e : Nat} (h : Blk w e 32 #[]) (hb : base ≤ e) : OwnV w base 32 5 (some ⟨e, 0, none⟩) 0 0 [] :=
  ⟨by simp, .inr ⟨e, 0, #[], rfl, hb, h, Nat.le_refl _, by simp, by simp, by simp⟩⟩
theorem reads_blk {w : World} {q : Nat} {p : RPk} (h : Blk w q 32 #[.int .u64 p.nu, .int .u64 p.se, .int .i64 p.si, .bool p.aq, .bool p.go]) : Reads w w.heap.size 5 (some ⟨q, 0, none⟩) 1 (RPkC p) := by
  refine ⟨rfl, fun _ => ⟨_, rfl, h.lt, fun j u hu => ?_⟩⟩
  have hc := h.cell j
  rw [show (⟨q, 0, none⟩ : Addr).add j = ⟨q, j, none⟩ by simp [Addr.add]; intro e; exact e.symm, hc]
  simpa [RPkC] using hu
/-- What the store leaves. -/
structure R9 (W1 wx : World) (N0 P x : Nat) (l : RG) (p : RPk) (A1 : Option Addr) (c1 : Nat) : Prop where
  blk : Blk wx x 30 #[.slice A1 (l.op.length + 1) c1, .int .u64 l.nx, .int .u64 l.ak, .bool l.hs]
  own : OwnV wx N0 32 5 A1 c1 (l.op.length + 1) (FlV RPkC l.op ++ RPkC p)
  pk : Blk wx P 32 #[.int .u64 p.nu, .int .u64 p.se, .int .i64 p.si, .bool p.aq, .bool p.go]
  fr : Frm W1 wx (fun b => b = x)
theorem fin_of {W1 u : World} {base N0 P x : Nat} {A A3 : Option Addr} {c c3 : Nat} {l : RG} {p : RPk} (hn : W1.heap.size = N0) (hP : Blk W1 P 32 #[.int .u64 p.nu, .int .u64 p.se, .int .i64 p.si, .bool p.aq, .bool p.go]) (hL : RLed W1 base x A c l) (hx : P ≠ x) (hb : Below N0 W1 u)
    (ho : OwnV u N0 32 5 A3 c3 (l.op.length + 1) (FlV RPkC l.op ++ RPkC p)) :
    ∃ A1 c1, R9 W1 (u.setCell ⟨x, 0, none⟩ (.slice A3 (l.op.length + 1) c3)) N0 P x l p A1 c1 := by
  have hxl : x < N0 := by rw [← hn]; exact hL.lt
  have hPl : P < N0 := by rw [← hn]; exact hP.lt
  refine ⟨A3, c3, ?_, ?_, ?_, ?_⟩
  · exact (hL.blk.below hb hxl).set_ 0 _
  · exact OwnV.frm ho (Frm.setS (Frm.refl _ _) (S := fun b => b = x) rfl _) (fun b hb2 e => by have := OwnV.row_ge' ho hb2; omega)
  · exact (hP.below hb hPl).far hx _
  · exact Frm.setS (S := fun b => b = x) (Frm.of_below (by rw [hn]; exact hb)) rfl _
set_option maxHeartbeats 8000000 in
set_option maxRecDepth 100000 in
theorem rSend_good (base x : Nat) (A : Option Addr) (c : Nat) (l : RG) (p : RPk) (w : World) (h : RLed w base x A c l) (hl : l.op.length ≤ 1000000) (hb : base ≤ w.heap.size)
    (h1 : ¬ p.si < 0) (h2 : ¬ 4611686018427387903 < p.nu) (h3 : ¬ 4611686018427387903 < p.se) (h4 : ¬ p.nu < l.nx) (h5 : 0 ≤ p.nu) :
    Calls Try.prog 14 #[.pointer (some ⟨x, 0, none⟩), .agg #[.int .u64 p.nu, .int .u64 p.se, .int .i64 p.si, .bool p.aq, .bool p.go]] w fun e w' => e = .returned (.int .i64 0) ∧ Hid (∃ A1 c1, RLed w' base x A1 c1 ⟨l.op ++ [p], p.nu + 1, l.ak, l.hs⟩ ∧ Frm w w' (LedS x A) ∧ ∀ b, LedS x A1 b → b = x ∨ w.heap.size ≤ b) := by
  obtain ⟨nu, se, si, aq, go⟩ := p
  simp only at h1 h2 h3 h4 h5
  have c1 := h.blk.cell 1
  simp at c1
  have hxz := h.lt
  have HL0 := Lib.hid h
  have hd1 : decide (si < 0) = false := by simpa using h1
  have hd2 : decide (4611686018427387903 < nu) = false := by simpa using h2
  have hd3 : decide (4611686018427387903 < se) = false := by simpa using h3
  have hd4 : decide (nu < l.nx) = false := by simpa using h4
  have hwr : IntKind.u64.wrap (nu + 1) = nu + 1 := IntWalk.u64_in _ (by omega)
  clear h h1 h2 h3 h4
  obtain ⟨W, hW⟩ : ∃ W, W = (w.alloc (.cells #[.int .u64 nu, .int .u64 se, .int .i64 si, .bool aq, .bool go] 32)).drew := ⟨_, rfl⟩
  have HW := Lib.hid hW
  have HB := Lib.hid (show Blk W w.heap.size 32 #[.int .u64 nu, .int .u64 se, .int .i64 si, .bool aq, .bool go] by rw [hW]; exact Blk.new w _ _)
  have HLW := Lib.hid (show RLed W base x A c l by rw [hW]; exact (HL0.out.below ((Below.refl _ _).alloc (Nat.le_refl _) _)).drew)
  have HFW := Lib.hid (show Frm w W (LedS x A) by rw [hW]; exact ((Frm.refl _ _).alloc _).drew)
  have hWz : w.heap.size ≤ W.heap.size := by rw [hW]; simp
  have d0 := HLW.out.blk.cell 0
  simp at d0
  have z0 := HLW.out.lt
  have g0 := HB.out.cell 0
  have g1 := HB.out.cell 1
  have g2 := HB.out.cell 2
  have g3 := HB.out.cell 3
  have g4 := HB.out.cell 4
  have gz := HB.out.lt
  simp at g0 g1 g2 g3 g4
  clear hW
  go_enter Try.func14, Try.ntmps14
  go_wp2_with fail
  go_region
  go_wp2_with fail
  rw [← HW.out]
  clear c1 d0 g0 g1 g2 g3 g4
  obtain ⟨N0, hN0⟩ : ∃ N0, N0 = W.heap.size := ⟨_, rfl⟩
  obtain ⟨W1, hW1⟩ : ∃ W1, W1 = W.drew := ⟨_, rfl⟩
  have HL := Lib.hid (show RLed W1 base x A c l by rw [hW1]; exact HLW.out.drew)
  have HP := Lib.hid (show Blk W1 w.heap.size 32 #[.int .u64 nu, .int .u64 se, .int .i64 si, .bool aq, .bool go] by rw [hW1]; exact HB.out.drew)
  have HN := Lib.hid (show W1.heap.size = N0 by rw [hW1, hN0]; rfl)
  have HNX := Lib.hid (show N0 ≤ W1.heap.size from Nat.le_of_eq HN.out.symm)
  have HXZ := Lib.hid (show W1.heap.size ≤ N0 from Nat.le_of_eq HN.out)
  have HF1 := Lib.hid (show Frm w W1 (LedS x A) by rw [hW1]; exact HFW.out.drew)
  have hNw : w.heap.size ≤ N0 := by rw [hN0]; exact hWz
  have hbase : base ≤ N0 := Nat.le_trans hb hNw
  have hnx : w.heap.size ≠ x := by omega
  have HW1 := Lib.hid hW1
  have h63 : 0 + l.op.length ≤ maxLen := by unfold maxLen; omega
  have hby : (0 + l.op.length) * 32 ≤ 140737488355328 := by omega
  have h63b : l.op.length + 1 ≤ maxLen := by unfold maxLen; omega
  have hbyb : (l.op.length + 1) * 32 ≤ 140737488355328 := by omega
  have sBel : ∀ (w' : World), Below N0 W1 w' → Frm W1 w' (fun b => b = x) := fun w' hb => Frm.of_below (by rw [HN.out]; exact hb)
  have sSet : ∀ (w' : World) (v : Value), Below N0 W1 w' → Frm W1 (w'.setCell ⟨x, 0, none⟩ v) (fun b => b = x) := fun w' v hb => Frm.setS (S := fun b => b = x) (sBel w' hb) rfl _
  have HLD := Lib.hid (fun (w' : World) (hS : Frm W1 w' (fun b => b = x)) => hS.keep HP.out (fun e => hnx e))
  have HS1 := Lib.hid sBel
  have HS2 := Lib.hid sSet
  clear hW1 hN0 HW HB HLW HFW sBel sSet z0 gz hWz hd1 hd2 hd3 hd4
  go_cut [4] (fun v wx => v = .int .i64 0 ∧ Hid (∃ A1 c1, R9 W1 wx N0 w.heap.size x l ⟨nu, se, si, aq, go⟩ A1 c1))
  case first =>
    refine wp_region_held_drew (S := fun w' => Frm W1 w' (fun b => b = x)) (by kernel_rfl) (by rw [← HW1.out]; exact Frm.refl _ _) (fun su0 => ?_)
    rw [← HW1.out] at su0 ⊢
    have bW1 := Lib.hid (show Below N0 W1 W1 from Below.refl _ _)
    have sW1 := su0
    clear su0
    refine wpAnyH_take (i := 0) (oi := ⟨_, _, _, _, _, _⟩) (v := (.pointer (some ⟨x, 0, none⟩))) rfl (by kernel_rfl) (by kernel_rfl) (by kernel_rfl) (fun _ _ _ h => h) (Or.inl ⟨by rfl, fun w _ => rfl⟩) sW1 ?_
    simp only [Act.put, List.setIfInBounds_toArray, List.set_cons_zero, List.set_cons_succ]
    refine wpAnyH_take (i := 2) (oi := ⟨_, _, _, _, _, _⟩) (v := (.pointer (some ⟨x, 0, none⟩))) rfl (by kernel_rfl) (by kernel_rfl) (by kernel_rfl) (fun _ _ _ h => h) (Or.inl ⟨by rfl, fun w _ => rfl⟩) sW1 ?_
    simp only [Act.put, List.setIfInBounds_toArray, List.set_cons_zero, List.set_cons_succ]
    refine wpAnyH_take (i := 3) (oi := ⟨_, _, _, _, _, _⟩) (v := (.pointer (some ⟨x, 0, none⟩))) rfl (by kernel_rfl) (by kernel_rfl) (by kernel_rfl) (fun _ _ _ h => h) (Or.inl ⟨by rfl, fun w' hS => by go_simp⟩) sW1 ?_
    simp only [Act.put, List.setIfInBounds_toArray, List.set_cons_zero, List.set_cons_succ]
    refine wpAnyH_take (i := 4) (oi := ⟨_, _, _, _, _, _⟩) (v := (.pointer (some ⟨x, 0, none⟩))) rfl (by kernel_rfl) (by kernel_rfl) (by kernel_rfl) (fun _ _ _ h => h) (Or.inl ⟨by rfl, fun w' hS => by go_simp⟩) sW1 ?_
    simp only [Act.put, List.setIfInBounds_toArray, List.set_cons_zero, List.set_cons_succ]
    refine wpAnyH_take (i := 7) (oi := ⟨_, _, _, _, _, _⟩) (v := (.agg #[.int .u64 nu, .int .u64 se, .int .i64 si, .bool aq, .bool go])) rfl (by kernel_rfl) (by kernel_rfl) (by kernel_rfl) (fun _ _ _ h => h) (Or.inl ⟨by rfl, fun w' hS => by have h := HLD.out w' hS; have k0 := h.cell 0; have k1 := h.cell 1; have k2 := h.cell 2; have k3 := h.cell 3; have k4 := h.cell 4; simp at k0 k1 k2 k3 k4; clear hS h; go_simp⟩) sW1 ?_
    simp only [Act.put, List.setIfInBounds_toArray, List.set_cons_zero, List.set_cons_succ]
    refine wpAnyH_ready (rs := [1, 5, 8]) (by kernel_rfl) (by simp) ?_
    refine AllReadyH.cons rfl (fun K hK => ?_) (AllReadyH.cons rfl (fun K hK => ?_) (AllReadyH.cons rfl (fun K hK => ?_) AllReadyH.nil))
    · go_simp
      have hb : Below N0 W1 (W1.alloc (.cells #[] 32)) := bW1.out.alloc (Nat.le_trans HNX.out bW1.out.size) _
      have hk : Blk (W1.alloc (.cells #[] 32)) W1.heap.size 32 #[] := Blk.new _ _ _
      have hg0 : N0 ≤ W1.heap.size := Nat.le_trans HNX.out bW1.out.size
      refine hK.out _ _ (HS1.out _ hb) (fun su1 => ?_)
      clear hK K
      obtain ⟨ge, hg⟩ : ∃ g, g = W1.heap.size := ⟨_, rfl⟩
      rw [← hg] at hk hg0 ⊢
      generalize W1.alloc (.cells #[] 32) = u1 at hb hk su1 ⊢
      have bu1 := Lib.hid hb
      have ke := Lib.hid hk
      have g0e := hg0
      clear hb hk hg0 hg
      refine wpAnyH_ready (rs := [5, 8]) (by kernel_rfl) (by simp) ?_
      refine AllReadyH.cons rfl (fun K hK => ?_) (AllReadyH.cons rfl (fun K hK => ?_) AllReadyH.nil)
      · have hl := HL.out.blk.below bu1.out (Nat.lt_of_lt_of_le HL.out.lt HXZ.out)
        have fc0 := hl.cell 0
        simp at fc0
        clear hl
        go_simp
        refine hK.out _ _ su1 (fun _ => ?_)
        clear hK K fc0
        refine wpAnyH_ready (rs := [6, 8]) (by kernel_rfl) (by simp) ?_
        refine AllReadyH.cons rfl (fun K hK => ?_) (AllReadyH.cons rfl (fun K hK => ?_) AllReadyH.nil)
        · refine step_appV rfl (.tmp 28) (.tmp 32) 27 32 5 32 (.agg #[.int .u64 0, .int .u64 0, .int .i64 0, .bool false, .bool false]) rfl Try.underlying27 info_rpk rfl (by omega) N0 (n := 0) (m := l.op.length) (xs := []) (news := FlV RPkC l.op) (d := c) rfl rfl (own_e0 ke.out g0e) (OwnF.reads (OwnV.below HL.out.own (bu1.out.mono HXZ.out))) (FlV_oneCell RPkC RPkC_one l.op) h63 hby (Nat.le_trans HNX.out bu1.out.size) ?_
          intro A2 c2 u3 hown hg hb _
          have hb2 : Below N0 W1 u3 := bu1.out.trans (hb.mono (Nat.le_refl _))
          rw [Nat.zero_add, List.nil_append] at hown
          rw [Nat.zero_add]
          refine hK.out _ _ (HS1.out _ hb2) (fun su3 => ?_)
          clear hK K
          simp only [List.getElem_toArray, List.getElem_cons_succ, List.getElem_cons_zero, Act.put, List.setIfInBounds_toArray, List.set_cons_succ, List.set_cons_zero]
          have bu3 := Lib.hid hb2
          have ou3 := Lib.hid hown
          clear hown hg hb hb2
          refine wpAnyH_ready (rs := [8]) (by kernel_rfl) (by simp) ?_
          refine AllReadyH.cons rfl (fun K hK => ?_) AllReadyH.nil
          · go_simp
            have hb : Below N0 W1 (u3.alloc (.cells #[.int .u64 nu, .int .u64 se, .int .i64 si, .bool aq, .bool go] 32)) := bu3.out.alloc (Nat.le_trans HNX.out bu3.out.size) _
            have hk : Blk (u3.alloc (.cells #[.int .u64 nu, .int .u64 se, .int .i64 si, .bool aq, .bool go] 32)) u3.heap.size 32 #[.int .u64 nu, .int .u64 se, .int .i64 si, .bool aq, .bool go] := Blk.new _ _ _
            have hg0 : N0 ≤ u3.heap.size := Nat.le_trans HNX.out bu3.out.size
            have hof := OwnV.below ou3.out ((Below.refl _ _).alloc (Nat.le_refl _) (.cells #[.int .u64 nu, .int .u64 se, .int .i64 si, .bool aq, .bool go] 32))
            refine hK.out _ _ (HS1.out _ hb) (fun su4 => ?_)
            clear hK K
            obtain ⟨gq, hg⟩ : ∃ g, g = u3.heap.size := ⟨_, rfl⟩
            rw [← hg] at hk hg0 ⊢
            generalize u3.alloc (.cells #[.int .u64 nu, .int .u64 se, .int .i64 si, .bool aq, .bool go] 32) = u4 at hb hk hof su4 ⊢
            have bu4 := Lib.hid hb
            have kq := Lib.hid hk
            have g0q := hg0
            have ou4 := Lib.hid hof
            clear hb hk hg0 hg hof
            refine wpAnyH_ready (rs := [9]) (by kernel_rfl) (by simp) ?_
            refine AllReadyH.cons rfl (fun K hK => ?_) AllReadyH.nil
            · refine step_appV rfl (.tmp 33) (.tmp 35) 27 32 5 32 (.agg #[.int .u64 0, .int .u64 0, .int .i64 0, .bool false, .bool false]) rfl Try.underlying27 info_rpk rfl (by omega) N0 (n := l.op.length) (m := 1) (xs := FlV RPkC l.op) (news := RPkC ⟨nu, se, si, aq, go⟩) (d := 1) rfl rfl ou4.out (reads_blk kq.out) (RPkC_one _) h63b hbyb (Nat.le_trans HNX.out bu4.out.size) ?_
              intro A3 c3 u5 hown hg hb _
              have hb2 : Below N0 W1 u5 := bu4.out.trans (hb.mono (Nat.le_refl _))
              refine hK.out _ _ (HS1.out _ hb2) (fun su5 => ?_)
              clear hK K
              simp only [List.getElem_toArray, List.getElem_cons_succ, List.getElem_cons_zero, Act.put, List.setIfInBounds_toArray, List.set_cons_succ, List.set_cons_zero]
              have bu5 := Lib.hid hb2
              have ou5 := Lib.hid hown
              clear hown hg hb hb2
              refine wpAnyH_take (i := 10) (oi := ⟨_, _, _, _, _, _⟩) (v := (.pointer (some ⟨x, 0, none⟩))) rfl (by kernel_rfl) (by kernel_rfl) (by kernel_rfl) (fun _ _ _ h => h) (Or.inl ⟨by rfl, fun w' hS => by go_simp⟩) su5 ?_
              simp only [Act.put, List.setIfInBounds_toArray, List.set_cons_zero, List.set_cons_succ]
              refine wpAnyH_take (i := 11) (oi := ⟨_, _, _, _, _, _⟩) (v := (.pointer (some ⟨x, 0, none⟩))) rfl (by kernel_rfl) (by kernel_rfl) (by kernel_rfl) (fun _ _ _ h => h) (Or.inl ⟨by rfl, fun w' hS => by go_simp⟩) su5 ?_
              simp only [Act.put, List.setIfInBounds_toArray, List.set_cons_zero, List.set_cons_succ]
              refine wpAnyH_ready (rs := [12]) (by kernel_rfl) (by simp) ?_
              refine AllReadyH.cons rfl (fun K hK => ?_) AllReadyH.nil
              have hl := HL.out.blk.below bu5.out (Nat.lt_of_lt_of_le HL.out.lt HXZ.out)
              have fc0 := hl.cell 0
              have ff0 := hl.frozen 0
              have fzz := hl.lt
              simp at fc0
              clear hl
              go_simp
              refine hK.out _ _ (HS2.out _ _ bu5.out) (fun _ => ?_)
              clear hK K
              refine wpAnyH_done (by kernel_rfl) ?_ _
              clear fc0 ff0 fzz
              go_wp2_with fail
              go_meet
              exact ⟨rfl, Lib.hid (fin_of HN.out HP.out HL.out hnx bu5.out ou5.out)⟩
        · go_simp
          have hb : Below N0 W1 (u1.alloc (.cells #[.int .u64 nu, .int .u64 se, .int .i64 si, .bool aq, .bool go] 32)) := bu1.out.alloc (Nat.le_trans HNX.out bu1.out.size) _
          have hk : Blk (u1.alloc (.cells #[.int .u64 nu, .int .u64 se, .int .i64 si, .bool aq, .bool go] 32)) u1.heap.size 32 #[.int .u64 nu, .int .u64 se, .int .i64 si, .bool aq, .bool go] := Blk.new _ _ _
          have hg0 : N0 ≤ u1.heap.size := Nat.le_trans HNX.out bu1.out.size
          have ho2 := ke.out.alloc (.cells #[.int .u64 nu, .int .u64 se, .int .i64 si, .bool aq, .bool go] 32)
          have hlt := ke.out.lt
          refine hK.out _ _ (HS1.out _ hb) (fun su6 => ?_)
          clear hK K
          obtain ⟨gq, hg⟩ : ∃ g, g = u1.heap.size := ⟨_, rfl⟩
          rw [← hg] at hk hg0 ⊢
          rw [← hg] at hlt
          generalize u1.alloc (.cells #[.int .u64 nu, .int .u64 se, .int .i64 si, .bool aq, .bool go] 32) = u6 at hb hk ho2 su6 ⊢
          have bu6 := Lib.hid hb
          have kq := Lib.hid hk
          have g0q := hg0
          have ke := Lib.hid ho2
          have hne : ge ≠ gq := by omega
          clear hb hk hg0 hg ho2 hlt
          refine wpAnyH_ready (rs := [6]) (by kernel_rfl) (by simp) ?_
          refine AllReadyH.cons rfl (fun K hK => ?_) AllReadyH.nil
          · refine step_appV rfl (.tmp 28) (.tmp 32) 27 32 5 32 (.agg #[.int .u64 0, .int .u64 0, .int .i64 0, .bool false, .bool false]) rfl Try.underlying27 info_rpk rfl (by omega) N0 (n := 0) (m := l.op.length) (xs := []) (news := FlV RPkC l.op) (d := c) rfl rfl (own_e0 ke.out g0e) (OwnF.reads (OwnV.below HL.out.own (bu6.out.mono HXZ.out))) (FlV_oneCell RPkC RPkC_one l.op) h63 hby (Nat.le_trans HNX.out bu6.out.size) ?_
            intro A2 c2 u7 hown hg hb _
            have hb2 : Below N0 W1 u7 := bu6.out.trans (hb.mono (Nat.le_refl _))
            have hq2 := kq.out.grown hg (fun e => by simp [Value.ownBlock] at e; exact hne e.symm)
            rw [Nat.zero_add, List.nil_append] at hown
            rw [Nat.zero_add]
            refine hK.out _ _ (HS1.out _ hb2) (fun su7 => ?_)
            clear hK K
            simp only [List.getElem_toArray, List.getElem_cons_succ, List.getElem_cons_zero, Act.put, List.setIfInBounds_toArray, List.set_cons_succ, List.set_cons_zero]
            have bu7 := Lib.hid hb2
            have ou7 := Lib.hid hown
            have kq := Lib.hid hq2
            clear hown hg hb hb2 hq2
            refine wpAnyH_ready (rs := [9]) (by kernel_rfl) (by simp) ?_
            refine AllReadyH.cons rfl (fun K hK => ?_) AllReadyH.nil
            · refine step_appV rfl (.tmp 33) (.tmp 35) 27 32 5 32 (.agg #[.int .u64 0, .int .u64 0, .int .i64 0, .bool false, .bool false]) rfl Try.underlying27 info_rpk rfl (by omega) N0 (n := l.op.length) (m := 1) (xs := FlV RPkC l.op) (news := RPkC ⟨nu, se, si, aq, go⟩) (d := 1) rfl rfl ou7.out (reads_blk kq.out) (RPkC_one _) h63b hbyb (Nat.le_trans HNX.out bu7.out.size) ?_
              intro A3 c3 u8 hown hg hb _
              have hb2 : Below N0 W1 u8 := bu7.out.trans (hb.mono (Nat.le_refl _))
              refine hK.out _ _ (HS1.out _ hb2) (fun su8 => ?_)
              clear hK K
              simp only [List.getElem_toArray, List.getElem_cons_succ, List.getElem_cons_zero, Act.put, List.setIfInBounds_toArray, List.set_cons_succ, List.set_cons_zero]
              have bu8 := Lib.hid hb2
              have ou8 := Lib.hid hown
              clear hown hg hb hb2
              refine wpAnyH_take (i := 10) (oi := ⟨_, _, _, _, _, _⟩) (v := (.pointer (some ⟨x, 0, none⟩))) rfl (by kernel_rfl) (by kernel_rfl) (by kernel_rfl) (fun _ _ _ h => h) (Or.inl ⟨by rfl, fun w' hS => by go_simp⟩) su8 ?_
              simp only [Act.put, List.setIfInBounds_toArray, List.set_cons_zero, List.set_cons_succ]
              refine wpAnyH_take (i := 11) (oi := ⟨_, _, _, _, _, _⟩) (v := (.pointer (some ⟨x, 0, none⟩))) rfl (by kernel_rfl) (by kernel_rfl) (by kernel_rfl) (fun _ _ _ h => h) (Or.inl ⟨by rfl, fun w' hS => by go_simp⟩) su8 ?_
              simp only [Act.put, List.setIfInBounds_toArray, List.set_cons_zero, List.set_cons_succ]
              refine wpAnyH_ready (rs := [12]) (by kernel_rfl) (by simp) ?_
              refine AllReadyH.cons rfl (fun K hK => ?_) AllReadyH.nil
              have hl := HL.out.blk.below bu8.out (Nat.lt_of_lt_of_le HL.out.lt HXZ.out)
              have fc0 := hl.cell 0
              have ff0 := hl.frozen 0
              have fzz := hl.lt
              simp at fc0
              clear hl
              go_simp
              refine hK.out _ _ (HS2.out _ _ bu8.out) (fun _ => ?_)
              clear hK K
              refine wpAnyH_done (by kernel_rfl) ?_ _
              clear fc0 ff0 fzz
              go_wp2_with fail
              go_meet
              exact ⟨rfl, Lib.hid (fin_of HN.out HP.out HL.out hnx bu8.out ou8.out)⟩
      · go_simp
        have hb : Below N0 W1 (u1.alloc (.cells #[.int .u64 nu, .int .u64 se, .int .i64 si, .bool aq, .bool go] 32)) := bu1.out.alloc (Nat.le_trans HNX.out bu1.out.size) _
        have hk : Blk (u1.alloc (.cells #[.int .u64 nu, .int .u64 se, .int .i64 si, .bool aq, .bool go] 32)) u1.heap.size 32 #[.int .u64 nu, .int .u64 se, .int .i64 si, .bool aq, .bool go] := Blk.new _ _ _
        have hg0 : N0 ≤ u1.heap.size := Nat.le_trans HNX.out bu1.out.size
        have ho2 := ke.out.alloc (.cells #[.int .u64 nu, .int .u64 se, .int .i64 si, .bool aq, .bool go] 32)
        have hlt := ke.out.lt
        refine hK.out _ _ (HS1.out _ hb) (fun su9 => ?_)
        clear hK K
        obtain ⟨gq, hg⟩ : ∃ g, g = u1.heap.size := ⟨_, rfl⟩
        rw [← hg] at hk hg0 ⊢
        rw [← hg] at hlt
        generalize u1.alloc (.cells #[.int .u64 nu, .int .u64 se, .int .i64 si, .bool aq, .bool go] 32) = u9 at hb hk ho2 su9 ⊢
        have bu9 := Lib.hid hb
        have kq := Lib.hid hk
        have g0q := hg0
        have ke := Lib.hid ho2
        have hne : ge ≠ gq := by omega
        clear hb hk hg0 hg ho2 hlt
        refine wpAnyH_ready (rs := [5]) (by kernel_rfl) (by simp) ?_
        refine AllReadyH.cons rfl (fun K hK => ?_) AllReadyH.nil
        · have hl := HL.out.blk.below bu9.out (Nat.lt_of_lt_of_le HL.out.lt HXZ.out)
          have fc0 := hl.cell 0
          simp at fc0
          clear hl
          go_simp
          refine hK.out _ _ su9 (fun _ => ?_)
          clear hK K fc0
          refine wpAnyH_ready (rs := [6]) (by kernel_rfl) (by simp) ?_
          refine AllReadyH.cons rfl (fun K hK => ?_) AllReadyH.nil
          · refine step_appV rfl (.tmp 28) (.tmp 32) 27 32 5 32 (.agg #[.int .u64 0, .int .u64 0, .int .i64 0, .bool false, .bool false]) rfl Try.underlying27 info_rpk rfl (by omega) N0 (n := 0) (m := l.op.length) (xs := []) (news := FlV RPkC l.op) (d := c) rfl rfl (own_e0 ke.out g0e) (OwnF.reads (OwnV.below HL.out.own (bu9.out.mono HXZ.out))) (FlV_oneCell RPkC RPkC_one l.op) h63 hby (Nat.le_trans HNX.out bu9.out.size) ?_
            intro A2 c2 u11 hown hg hb _
            have hb2 : Below N0 W1 u11 := bu9.out.trans (hb.mono (Nat.le_refl _))
            have hq2 := kq.out.grown hg (fun e => by simp [Value.ownBlock] at e; exact hne e.symm)
            rw [Nat.zero_add, List.nil_append] at hown
            rw [Nat.zero_add]
            refine hK.out _ _ (HS1.out _ hb2) (fun su11 => ?_)
            clear hK K
            simp only [List.getElem_toArray, List.getElem_cons_succ, List.getElem_cons_zero, Act.put, List.setIfInBounds_toArray, List.set_cons_succ, List.set_cons_zero]
            have bu11 := Lib.hid hb2
            have ou11 := Lib.hid hown
            have kq := Lib.hid hq2
            clear hown hg hb hb2 hq2
            refine wpAnyH_ready (rs := [9]) (by kernel_rfl) (by simp) ?_
            refine AllReadyH.cons rfl (fun K hK => ?_) AllReadyH.nil
            · refine step_appV rfl (.tmp 33) (.tmp 35) 27 32 5 32 (.agg #[.int .u64 0, .int .u64 0, .int .i64 0, .bool false, .bool false]) rfl Try.underlying27 info_rpk rfl (by omega) N0 (n := l.op.length) (m := 1) (xs := FlV RPkC l.op) (news := RPkC ⟨nu, se, si, aq, go⟩) (d := 1) rfl rfl ou11.out (reads_blk kq.out) (RPkC_one _) h63b hbyb (Nat.le_trans HNX.out bu11.out.size) ?_
              intro A3 c3 u12 hown hg hb _
              have hb2 : Below N0 W1 u12 := bu11.out.trans (hb.mono (Nat.le_refl _))
              refine hK.out _ _ (HS1.out _ hb2) (fun su12 => ?_)
              clear hK K
              simp only [List.getElem_toArray, List.getElem_cons_succ, List.getElem_cons_zero, Act.put, List.setIfInBounds_toArray, List.set_cons_succ, List.set_cons_zero]
              have bu12 := Lib.hid hb2
              have ou12 := Lib.hid hown
              clear hown hg hb hb2
              refine wpAnyH_take (i := 10) (oi := ⟨_, _, _, _, _, _⟩) (v := (.pointer (some ⟨x, 0, none⟩))) rfl (by kernel_rfl) (by kernel_rfl) (by kernel_rfl) (fun _ _ _ h => h) (Or.inl ⟨by rfl, fun w' hS => by go_simp⟩) su12 ?_
              simp only [Act.put, List.setIfInBounds_toArray, List.set_cons_zero, List.set_cons_succ]
              refine wpAnyH_take (i := 11) (oi := ⟨_, _, _, _, _, _⟩) (v := (.pointer (some ⟨x, 0, none⟩))) rfl (by kernel_rfl) (by kernel_rfl) (by kernel_rfl) (fun _ _ _ h => h) (Or.inl ⟨by rfl, fun w' hS => by go_simp⟩) su12 ?_
              simp only [Act.put, List.setIfInBounds_toArray, List.set_cons_zero, List.set_cons_succ]
              refine wpAnyH_ready (rs := [12]) (by kernel_rfl) (by simp) ?_
              refine AllReadyH.cons rfl (fun K hK => ?_) AllReadyH.nil
              have hl := HL.out.blk.below bu12.out (Nat.lt_of_lt_of_le HL.out.lt HXZ.out)
              have fc0 := hl.cell 0
              have ff0 := hl.frozen 0
              have fzz := hl.lt
              simp at fc0
              clear hl
              go_simp
              refine hK.out _ _ (HS2.out _ _ bu12.out) (fun _ => ?_)
              clear hK K
              refine wpAnyH_done (by kernel_rfl) ?_ _
              clear fc0 ff0 fzz
              go_wp2_with fail
              go_meet
              exact ⟨rfl, Lib.hid (fin_of HN.out HP.out HL.out hnx bu12.out ou12.out)⟩
    · have hl := HL.out.blk.below bW1.out (Nat.lt_of_lt_of_le HL.out.lt HXZ.out)
      have fc0 := hl.cell 0
      simp at fc0
      clear hl
      go_simp
      refine hK.out _ _ sW1 (fun _ => ?_)
      clear hK K fc0
      refine wpAnyH_ready (rs := [1, 8]) (by kernel_rfl) (by simp) ?_
      refine AllReadyH.cons rfl (fun K hK => ?_) (AllReadyH.cons rfl (fun K hK => ?_) AllReadyH.nil)
      · go_simp
        have hb : Below N0 W1 (W1.alloc (.cells #[] 32)) := bW1.out.alloc (Nat.le_trans HNX.out bW1.out.size) _
        have hk : Blk (W1.alloc (.cells #[] 32)) W1.heap.size 32 #[] := Blk.new _ _ _
        have hg0 : N0 ≤ W1.heap.size := Nat.le_trans HNX.out bW1.out.size
        refine hK.out _ _ (HS1.out _ hb) (fun su14 => ?_)
        clear hK K
        obtain ⟨ge, hg⟩ : ∃ g, g = W1.heap.size := ⟨_, rfl⟩
        rw [← hg] at hk hg0 ⊢
        generalize W1.alloc (.cells #[] 32) = u14 at hb hk su14 ⊢
        have bu14 := Lib.hid hb
        have ke := Lib.hid hk
        have g0e := hg0
        clear hb hk hg0 hg
        refine wpAnyH_ready (rs := [6, 8]) (by kernel_rfl) (by simp) ?_
        refine AllReadyH.cons rfl (fun K hK => ?_) (AllReadyH.cons rfl (fun K hK => ?_) AllReadyH.nil)
        · refine step_appV rfl (.tmp 28) (.tmp 32) 27 32 5 32 (.agg #[.int .u64 0, .int .u64 0, .int .i64 0, .bool false, .bool false]) rfl Try.underlying27 info_rpk rfl (by omega) N0 (n := 0) (m := l.op.length) (xs := []) (news := FlV RPkC l.op) (d := c) rfl rfl (own_e0 ke.out g0e) (OwnF.reads (OwnV.below HL.out.own (bu14.out.mono HXZ.out))) (FlV_oneCell RPkC RPkC_one l.op) h63 hby (Nat.le_trans HNX.out bu14.out.size) ?_
          intro A2 c2 u15 hown hg hb _
          have hb2 : Below N0 W1 u15 := bu14.out.trans (hb.mono (Nat.le_refl _))
          rw [Nat.zero_add, List.nil_append] at hown
          rw [Nat.zero_add]
          refine hK.out _ _ (HS1.out _ hb2) (fun su15 => ?_)
          clear hK K
          simp only [List.getElem_toArray, List.getElem_cons_succ, List.getElem_cons_zero, Act.put, List.setIfInBounds_toArray, List.set_cons_succ, List.set_cons_zero]
          have bu15 := Lib.hid hb2
          have ou15 := Lib.hid hown
          clear hown hg hb hb2
          refine wpAnyH_ready (rs := [8]) (by kernel_rfl) (by simp) ?_
          refine AllReadyH.cons rfl (fun K hK => ?_) AllReadyH.nil
          · go_simp
            have hb : Below N0 W1 (u15.alloc (.cells #[.int .u64 nu, .int .u64 se, .int .i64 si, .bool aq, .bool go] 32)) := bu15.out.alloc (Nat.le_trans HNX.out bu15.out.size) _
            have hk : Blk (u15.alloc (.cells #[.int .u64 nu, .int .u64 se, .int .i64 si, .bool aq, .bool go] 32)) u15.heap.size 32 #[.int .u64 nu, .int .u64 se, .int .i64 si, .bool aq, .bool go] := Blk.new _ _ _
            have hg0 : N0 ≤ u15.heap.size := Nat.le_trans HNX.out bu15.out.size
            have hof := OwnV.below ou15.out ((Below.refl _ _).alloc (Nat.le_refl _) (.cells #[.int .u64 nu, .int .u64 se, .int .i64 si, .bool aq, .bool go] 32))
            refine hK.out _ _ (HS1.out _ hb) (fun su16 => ?_)
            clear hK K
            obtain ⟨gq, hg⟩ : ∃ g, g = u15.heap.size := ⟨_, rfl⟩
            rw [← hg] at hk hg0 ⊢
            generalize u15.alloc (.cells #[.int .u64 nu, .int .u64 se, .int .i64 si, .bool aq, .bool go] 32) = u16 at hb hk hof su16 ⊢
            have bu16 := Lib.hid hb
            have kq := Lib.hid hk
            have g0q := hg0
            have ou16 := Lib.hid hof
            clear hb hk hg0 hg hof
            refine wpAnyH_ready (rs := [9]) (by kernel_rfl) (by simp) ?_
            refine AllReadyH.cons rfl (fun K hK => ?_) AllReadyH.nil
            · refine step_appV rfl (.tmp 33) (.tmp 35) 27 32 5 32 (.agg #[.int .u64 0, .int .u64 0, .int .i64 0, .bool false, .bool false]) rfl Try.underlying27 info_rpk rfl (by omega) N0 (n := l.op.length) (m := 1) (xs := FlV RPkC l.op) (news := RPkC ⟨nu, se, si, aq, go⟩) (d := 1) rfl rfl ou16.out (reads_blk kq.out) (RPkC_one _) h63b hbyb (Nat.le_trans HNX.out bu16.out.size) ?_
              intro A3 c3 u17 hown hg hb _
              have hb2 : Below N0 W1 u17 := bu16.out.trans (hb.mono (Nat.le_refl _))
              refine hK.out _ _ (HS1.out _ hb2) (fun su17 => ?_)
              clear hK K
              simp only [List.getElem_toArray, List.getElem_cons_succ, List.getElem_cons_zero, Act.put, List.setIfInBounds_toArray, List.set_cons_succ, List.set_cons_zero]
              have bu17 := Lib.hid hb2
              have ou17 := Lib.hid hown
              clear hown hg hb hb2
              refine wpAnyH_take (i := 10) (oi := ⟨_, _, _, _, _, _⟩) (v := (.pointer (some ⟨x, 0, none⟩))) rfl (by kernel_rfl) (by kernel_rfl) (by kernel_rfl) (fun _ _ _ h => h) (Or.inl ⟨by rfl, fun w' hS => by go_simp⟩) su17 ?_
              simp only [Act.put, List.setIfInBounds_toArray, List.set_cons_zero, List.set_cons_succ]
              refine wpAnyH_take (i := 11) (oi := ⟨_, _, _, _, _, _⟩) (v := (.pointer (some ⟨x, 0, none⟩))) rfl (by kernel_rfl) (by kernel_rfl) (by kernel_rfl) (fun _ _ _ h => h) (Or.inl ⟨by rfl, fun w' hS => by go_simp⟩) su17 ?_
              simp only [Act.put, List.setIfInBounds_toArray, List.set_cons_zero, List.set_cons_succ]
              refine wpAnyH_ready (rs := [12]) (by kernel_rfl) (by simp) ?_
              refine AllReadyH.cons rfl (fun K hK => ?_) AllReadyH.nil
              have hl := HL.out.blk.below bu17.out (Nat.lt_of_lt_of_le HL.out.lt HXZ.out)
              have fc0 := hl.cell 0
              have ff0 := hl.frozen 0
              have fzz := hl.lt
              simp at fc0
              clear hl
              go_simp
              refine hK.out _ _ (HS2.out _ _ bu17.out) (fun _ => ?_)
              clear hK K
              refine wpAnyH_done (by kernel_rfl) ?_ _
              clear fc0 ff0 fzz
              go_wp2_with fail
              go_meet
              exact ⟨rfl, Lib.hid (fin_of HN.out HP.out HL.out hnx bu17.out ou17.out)⟩
        · go_simp
          have hb : Below N0 W1 (u14.alloc (.cells #[.int .u64 nu, .int .u64 se, .int .i64 si, .bool aq, .bool go] 32)) := bu14.out.alloc (Nat.le_trans HNX.out bu14.out.size) _
          have hk : Blk (u14.alloc (.cells #[.int .u64 nu, .int .u64 se, .int .i64 si, .bool aq, .bool go] 32)) u14.heap.size 32 #[.int .u64 nu, .int .u64 se, .int .i64 si, .bool aq, .bool go] := Blk.new _ _ _
          have hg0 : N0 ≤ u14.heap.size := Nat.le_trans HNX.out bu14.out.size
          have ho2 := ke.out.alloc (.cells #[.int .u64 nu, .int .u64 se, .int .i64 si, .bool aq, .bool go] 32)
          have hlt := ke.out.lt
          refine hK.out _ _ (HS1.out _ hb) (fun su18 => ?_)
          clear hK K
          obtain ⟨gq, hg⟩ : ∃ g, g = u14.heap.size := ⟨_, rfl⟩
          rw [← hg] at hk hg0 ⊢
          rw [← hg] at hlt
          generalize u14.alloc (.cells #[.int .u64 nu, .int .u64 se, .int .i64 si, .bool aq, .bool go] 32) = u18 at hb hk ho2 su18 ⊢
          have bu18 := Lib.hid hb
          have kq := Lib.hid hk
          have g0q := hg0
          have ke := Lib.hid ho2
          have hne : ge ≠ gq := by omega
          clear hb hk hg0 hg ho2 hlt
          refine wpAnyH_ready (rs := [6]) (by kernel_rfl) (by simp) ?_
          refine AllReadyH.cons rfl (fun K hK => ?_) AllReadyH.nil
          · refine step_appV rfl (.tmp 28) (.tmp 32) 27 32 5 32 (.agg #[.int .u64 0, .int .u64 0, .int .i64 0, .bool false, .bool false]) rfl Try.underlying27 info_rpk rfl (by omega) N0 (n := 0) (m := l.op.length) (xs := []) (news := FlV RPkC l.op) (d := c) rfl rfl (own_e0 ke.out g0e) (OwnF.reads (OwnV.below HL.out.own (bu18.out.mono HXZ.out))) (FlV_oneCell RPkC RPkC_one l.op) h63 hby (Nat.le_trans HNX.out bu18.out.size) ?_
            intro A2 c2 u19 hown hg hb _
            have hb2 : Below N0 W1 u19 := bu18.out.trans (hb.mono (Nat.le_refl _))
            have hq2 := kq.out.grown hg (fun e => by simp [Value.ownBlock] at e; exact hne e.symm)
            rw [Nat.zero_add, List.nil_append] at hown
            rw [Nat.zero_add]
            refine hK.out _ _ (HS1.out _ hb2) (fun su19 => ?_)
            clear hK K
            simp only [List.getElem_toArray, List.getElem_cons_succ, List.getElem_cons_zero, Act.put, List.setIfInBounds_toArray, List.set_cons_succ, List.set_cons_zero]
            have bu19 := Lib.hid hb2
            have ou19 := Lib.hid hown
            have kq := Lib.hid hq2
            clear hown hg hb hb2 hq2
            refine wpAnyH_ready (rs := [9]) (by kernel_rfl) (by simp) ?_
            refine AllReadyH.cons rfl (fun K hK => ?_) AllReadyH.nil
            · refine step_appV rfl (.tmp 33) (.tmp 35) 27 32 5 32 (.agg #[.int .u64 0, .int .u64 0, .int .i64 0, .bool false, .bool false]) rfl Try.underlying27 info_rpk rfl (by omega) N0 (n := l.op.length) (m := 1) (xs := FlV RPkC l.op) (news := RPkC ⟨nu, se, si, aq, go⟩) (d := 1) rfl rfl ou19.out (reads_blk kq.out) (RPkC_one _) h63b hbyb (Nat.le_trans HNX.out bu19.out.size) ?_
              intro A3 c3 u20 hown hg hb _
              have hb2 : Below N0 W1 u20 := bu19.out.trans (hb.mono (Nat.le_refl _))
              refine hK.out _ _ (HS1.out _ hb2) (fun su20 => ?_)
              clear hK K
              simp only [List.getElem_toArray, List.getElem_cons_succ, List.getElem_cons_zero, Act.put, List.setIfInBounds_toArray, List.set_cons_succ, List.set_cons_zero]
              have bu20 := Lib.hid hb2
              have ou20 := Lib.hid hown
              clear hown hg hb hb2
              refine wpAnyH_take (i := 10) (oi := ⟨_, _, _, _, _, _⟩) (v := (.pointer (some ⟨x, 0, none⟩))) rfl (by kernel_rfl) (by kernel_rfl) (by kernel_rfl) (fun _ _ _ h => h) (Or.inl ⟨by rfl, fun w' hS => by go_simp⟩) su20 ?_
              simp only [Act.put, List.setIfInBounds_toArray, List.set_cons_zero, List.set_cons_succ]
              refine wpAnyH_take (i := 11) (oi := ⟨_, _, _, _, _, _⟩) (v := (.pointer (some ⟨x, 0, none⟩))) rfl (by kernel_rfl) (by kernel_rfl) (by kernel_rfl) (fun _ _ _ h => h) (Or.inl ⟨by rfl, fun w' hS => by go_simp⟩) su20 ?_
              simp only [Act.put, List.setIfInBounds_toArray, List.set_cons_zero, List.set_cons_succ]
              refine wpAnyH_ready (rs := [12]) (by kernel_rfl) (by simp) ?_
              refine AllReadyH.cons rfl (fun K hK => ?_) AllReadyH.nil
              have hl := HL.out.blk.below bu20.out (Nat.lt_of_lt_of_le HL.out.lt HXZ.out)
              have fc0 := hl.cell 0
              have ff0 := hl.frozen 0
              have fzz := hl.lt
              simp at fc0
              clear hl
              go_simp
              refine hK.out _ _ (HS2.out _ _ bu20.out) (fun _ => ?_)
              clear hK K
              refine wpAnyH_done (by kernel_rfl) ?_ _
              clear fc0 ff0 fzz
              go_wp2_with fail
              go_meet
              exact ⟨rfl, Lib.hid (fin_of HN.out HP.out HL.out hnx bu20.out ou20.out)⟩
      · go_simp
        have hb : Below N0 W1 (W1.alloc (.cells #[.int .u64 nu, .int .u64 se, .int .i64 si, .bool aq, .bool go] 32)) := bW1.out.alloc (Nat.le_trans HNX.out bW1.out.size) _
        have hk : Blk (W1.alloc (.cells #[.int .u64 nu, .int .u64 se, .int .i64 si, .bool aq, .bool go] 32)) W1.heap.size 32 #[.int .u64 nu, .int .u64 se, .int .i64 si, .bool aq, .bool go] := Blk.new _ _ _
        have hg0 : N0 ≤ W1.heap.size := Nat.le_trans HNX.out bW1.out.size
        refine hK.out _ _ (HS1.out _ hb) (fun su21 => ?_)
        clear hK K
        obtain ⟨gq, hg⟩ : ∃ g, g = W1.heap.size := ⟨_, rfl⟩
        rw [← hg] at hk hg0 ⊢
        generalize W1.alloc (.cells #[.int .u64 nu, .int .u64 se, .int .i64 si, .bool aq, .bool go] 32) = u21 at hb hk su21 ⊢
        have bu21 := Lib.hid hb
        have kq := Lib.hid hk
        have g0q := hg0
        clear hb hk hg0 hg
        refine wpAnyH_ready (rs := [1]) (by kernel_rfl) (by simp) ?_
        refine AllReadyH.cons rfl (fun K hK => ?_) AllReadyH.nil
        · go_simp
          have hb : Below N0 W1 (u21.alloc (.cells #[] 32)) := bu21.out.alloc (Nat.le_trans HNX.out bu21.out.size) _
          have hk : Blk (u21.alloc (.cells #[] 32)) u21.heap.size 32 #[] := Blk.new _ _ _
          have hg0 : N0 ≤ u21.heap.size := Nat.le_trans HNX.out bu21.out.size
          have ho2 := kq.out.alloc (.cells #[] 32)
          have hlt := kq.out.lt
          refine hK.out _ _ (HS1.out _ hb) (fun su22 => ?_)
          clear hK K
          obtain ⟨ge, hg⟩ : ∃ g, g = u21.heap.size := ⟨_, rfl⟩
          rw [← hg] at hk hg0 ⊢
          rw [← hg] at hlt
          generalize u21.alloc (.cells #[] 32) = u22 at hb hk ho2 su22 ⊢
          have bu22 := Lib.hid hb
          have ke := Lib.hid hk
          have g0e := hg0
          have kq := Lib.hid ho2
          have hne : ge ≠ gq := by omega
          clear hb hk hg0 hg ho2 hlt
          refine wpAnyH_ready (rs := [6]) (by kernel_rfl) (by simp) ?_
          refine AllReadyH.cons rfl (fun K hK => ?_) AllReadyH.nil
          · refine step_appV rfl (.tmp 28) (.tmp 32) 27 32 5 32 (.agg #[.int .u64 0, .int .u64 0, .int .i64 0, .bool false, .bool false]) rfl Try.underlying27 info_rpk rfl (by omega) N0 (n := 0) (m := l.op.length) (xs := []) (news := FlV RPkC l.op) (d := c) rfl rfl (own_e0 ke.out g0e) (OwnF.reads (OwnV.below HL.out.own (bu22.out.mono HXZ.out))) (FlV_oneCell RPkC RPkC_one l.op) h63 hby (Nat.le_trans HNX.out bu22.out.size) ?_
            intro A2 c2 u23 hown hg hb _
            have hb2 : Below N0 W1 u23 := bu22.out.trans (hb.mono (Nat.le_refl _))
            have hq2 := kq.out.grown hg (fun e => by simp [Value.ownBlock] at e; exact hne e.symm)
            rw [Nat.zero_add, List.nil_append] at hown
            rw [Nat.zero_add]
            refine hK.out _ _ (HS1.out _ hb2) (fun su23 => ?_)
            clear hK K
            simp only [List.getElem_toArray, List.getElem_cons_succ, List.getElem_cons_zero, Act.put, List.setIfInBounds_toArray, List.set_cons_succ, List.set_cons_zero]
            have bu23 := Lib.hid hb2
            have ou23 := Lib.hid hown
            have kq := Lib.hid hq2
            clear hown hg hb hb2 hq2
            refine wpAnyH_ready (rs := [9]) (by kernel_rfl) (by simp) ?_
            refine AllReadyH.cons rfl (fun K hK => ?_) AllReadyH.nil
            · refine step_appV rfl (.tmp 33) (.tmp 35) 27 32 5 32 (.agg #[.int .u64 0, .int .u64 0, .int .i64 0, .bool false, .bool false]) rfl Try.underlying27 info_rpk rfl (by omega) N0 (n := l.op.length) (m := 1) (xs := FlV RPkC l.op) (news := RPkC ⟨nu, se, si, aq, go⟩) (d := 1) rfl rfl ou23.out (reads_blk kq.out) (RPkC_one _) h63b hbyb (Nat.le_trans HNX.out bu23.out.size) ?_
              intro A3 c3 u24 hown hg hb _
              have hb2 : Below N0 W1 u24 := bu23.out.trans (hb.mono (Nat.le_refl _))
              refine hK.out _ _ (HS1.out _ hb2) (fun su24 => ?_)
              clear hK K
              simp only [List.getElem_toArray, List.getElem_cons_succ, List.getElem_cons_zero, Act.put, List.setIfInBounds_toArray, List.set_cons_succ, List.set_cons_zero]
              have bu24 := Lib.hid hb2
              have ou24 := Lib.hid hown
              clear hown hg hb hb2
              refine wpAnyH_take (i := 10) (oi := ⟨_, _, _, _, _, _⟩) (v := (.pointer (some ⟨x, 0, none⟩))) rfl (by kernel_rfl) (by kernel_rfl) (by kernel_rfl) (fun _ _ _ h => h) (Or.inl ⟨by rfl, fun w' hS => by go_simp⟩) su24 ?_
              simp only [Act.put, List.setIfInBounds_toArray, List.set_cons_zero, List.set_cons_succ]
              refine wpAnyH_take (i := 11) (oi := ⟨_, _, _, _, _, _⟩) (v := (.pointer (some ⟨x, 0, none⟩))) rfl (by kernel_rfl) (by kernel_rfl) (by kernel_rfl) (fun _ _ _ h => h) (Or.inl ⟨by rfl, fun w' hS => by go_simp⟩) su24 ?_
              simp only [Act.put, List.setIfInBounds_toArray, List.set_cons_zero, List.set_cons_succ]
              refine wpAnyH_ready (rs := [12]) (by kernel_rfl) (by simp) ?_
              refine AllReadyH.cons rfl (fun K hK => ?_) AllReadyH.nil
              have hl := HL.out.blk.below bu24.out (Nat.lt_of_lt_of_le HL.out.lt HXZ.out)
              have fc0 := hl.cell 0
              have ff0 := hl.frozen 0
              have fzz := hl.lt
              simp at fc0
              clear hl
              go_simp
              refine hK.out _ _ (HS2.out _ _ bu24.out) (fun _ => ?_)
              clear hK K
              refine wpAnyH_done (by kernel_rfl) ?_ _
              clear fc0 ff0 fzz
              go_wp2_with fail
              go_meet
              exact ⟨rfl, Lib.hid (fin_of HN.out HP.out HL.out hnx bu24.out ou24.out)⟩
    · go_simp
      have hb : Below N0 W1 (W1.alloc (.cells #[.int .u64 nu, .int .u64 se, .int .i64 si, .bool aq, .bool go] 32)) := bW1.out.alloc (Nat.le_trans HNX.out bW1.out.size) _
      have hk : Blk (W1.alloc (.cells #[.int .u64 nu, .int .u64 se, .int .i64 si, .bool aq, .bool go] 32)) W1.heap.size 32 #[.int .u64 nu, .int .u64 se, .int .i64 si, .bool aq, .bool go] := Blk.new _ _ _
      have hg0 : N0 ≤ W1.heap.size := Nat.le_trans HNX.out bW1.out.size
      refine hK.out _ _ (HS1.out _ hb) (fun su25 => ?_)
      clear hK K
      obtain ⟨gq, hg⟩ : ∃ g, g = W1.heap.size := ⟨_, rfl⟩
      rw [← hg] at hk hg0 ⊢
      generalize W1.alloc (.cells #[.int .u64 nu, .int .u64 se, .int .i64 si, .bool aq, .bool go] 32) = u25 at hb hk su25 ⊢
      have bu25 := Lib.hid hb
      have kq := Lib.hid hk
      have g0q := hg0
      clear hb hk hg0 hg
      refine wpAnyH_ready (rs := [1, 5]) (by kernel_rfl) (by simp) ?_
      refine AllReadyH.cons rfl (fun K hK => ?_) (AllReadyH.cons rfl (fun K hK => ?_) AllReadyH.nil)
      · go_simp
        have hb : Below N0 W1 (u25.alloc (.cells #[] 32)) := bu25.out.alloc (Nat.le_trans HNX.out bu25.out.size) _
        have hk : Blk (u25.alloc (.cells #[] 32)) u25.heap.size 32 #[] := Blk.new _ _ _
        have hg0 : N0 ≤ u25.heap.size := Nat.le_trans HNX.out bu25.out.size
        have ho2 := kq.out.alloc (.cells #[] 32)
        have hlt := kq.out.lt
        refine hK.out _ _ (HS1.out _ hb) (fun su26 => ?_)
        clear hK K
        obtain ⟨ge, hg⟩ : ∃ g, g = u25.heap.size := ⟨_, rfl⟩
        rw [← hg] at hk hg0 ⊢
        rw [← hg] at hlt
        generalize u25.alloc (.cells #[] 32) = u26 at hb hk ho2 su26 ⊢
        have bu26 := Lib.hid hb
        have ke := Lib.hid hk
        have g0e := hg0
        have kq := Lib.hid ho2
        have hne : ge ≠ gq := by omega
        clear hb hk hg0 hg ho2 hlt
        refine wpAnyH_ready (rs := [5]) (by kernel_rfl) (by simp) ?_
        refine AllReadyH.cons rfl (fun K hK => ?_) AllReadyH.nil
        · have hl := HL.out.blk.below bu26.out (Nat.lt_of_lt_of_le HL.out.lt HXZ.out)
          have fc0 := hl.cell 0
          simp at fc0
          clear hl
          go_simp
          refine hK.out _ _ su26 (fun _ => ?_)
          clear hK K fc0
          refine wpAnyH_ready (rs := [6]) (by kernel_rfl) (by simp) ?_
          refine AllReadyH.cons rfl (fun K hK => ?_) AllReadyH.nil
          · refine step_appV rfl (.tmp 28) (.tmp 32) 27 32 5 32 (.agg #[.int .u64 0, .int .u64 0, .int .i64 0, .bool false, .bool false]) rfl Try.underlying27 info_rpk rfl (by omega) N0 (n := 0) (m := l.op.length) (xs := []) (news := FlV RPkC l.op) (d := c) rfl rfl (own_e0 ke.out g0e) (OwnF.reads (OwnV.below HL.out.own (bu26.out.mono HXZ.out))) (FlV_oneCell RPkC RPkC_one l.op) h63 hby (Nat.le_trans HNX.out bu26.out.size) ?_
            intro A2 c2 u28 hown hg hb _
            have hb2 : Below N0 W1 u28 := bu26.out.trans (hb.mono (Nat.le_refl _))
            have hq2 := kq.out.grown hg (fun e => by simp [Value.ownBlock] at e; exact hne e.symm)
            rw [Nat.zero_add, List.nil_append] at hown
            rw [Nat.zero_add]
            refine hK.out _ _ (HS1.out _ hb2) (fun su28 => ?_)
            clear hK K
            simp only [List.getElem_toArray, List.getElem_cons_succ, List.getElem_cons_zero, Act.put, List.setIfInBounds_toArray, List.set_cons_succ, List.set_cons_zero]
            have bu28 := Lib.hid hb2
            have ou28 := Lib.hid hown
            have kq := Lib.hid hq2
            clear hown hg hb hb2 hq2
            refine wpAnyH_ready (rs := [9]) (by kernel_rfl) (by simp) ?_
            refine AllReadyH.cons rfl (fun K hK => ?_) AllReadyH.nil
            · refine step_appV rfl (.tmp 33) (.tmp 35) 27 32 5 32 (.agg #[.int .u64 0, .int .u64 0, .int .i64 0, .bool false, .bool false]) rfl Try.underlying27 info_rpk rfl (by omega) N0 (n := l.op.length) (m := 1) (xs := FlV RPkC l.op) (news := RPkC ⟨nu, se, si, aq, go⟩) (d := 1) rfl rfl ou28.out (reads_blk kq.out) (RPkC_one _) h63b hbyb (Nat.le_trans HNX.out bu28.out.size) ?_
              intro A3 c3 u29 hown hg hb _
              have hb2 : Below N0 W1 u29 := bu28.out.trans (hb.mono (Nat.le_refl _))
              refine hK.out _ _ (HS1.out _ hb2) (fun su29 => ?_)
              clear hK K
              simp only [List.getElem_toArray, List.getElem_cons_succ, List.getElem_cons_zero, Act.put, List.setIfInBounds_toArray, List.set_cons_succ, List.set_cons_zero]
              have bu29 := Lib.hid hb2
              have ou29 := Lib.hid hown
              clear hown hg hb hb2
              refine wpAnyH_take (i := 10) (oi := ⟨_, _, _, _, _, _⟩) (v := (.pointer (some ⟨x, 0, none⟩))) rfl (by kernel_rfl) (by kernel_rfl) (by kernel_rfl) (fun _ _ _ h => h) (Or.inl ⟨by rfl, fun w' hS => by go_simp⟩) su29 ?_
              simp only [Act.put, List.setIfInBounds_toArray, List.set_cons_zero, List.set_cons_succ]
              refine wpAnyH_take (i := 11) (oi := ⟨_, _, _, _, _, _⟩) (v := (.pointer (some ⟨x, 0, none⟩))) rfl (by kernel_rfl) (by kernel_rfl) (by kernel_rfl) (fun _ _ _ h => h) (Or.inl ⟨by rfl, fun w' hS => by go_simp⟩) su29 ?_
              simp only [Act.put, List.setIfInBounds_toArray, List.set_cons_zero, List.set_cons_succ]
              refine wpAnyH_ready (rs := [12]) (by kernel_rfl) (by simp) ?_
              refine AllReadyH.cons rfl (fun K hK => ?_) AllReadyH.nil
              have hl := HL.out.blk.below bu29.out (Nat.lt_of_lt_of_le HL.out.lt HXZ.out)
              have fc0 := hl.cell 0
              have ff0 := hl.frozen 0
              have fzz := hl.lt
              simp at fc0
              clear hl
              go_simp
              refine hK.out _ _ (HS2.out _ _ bu29.out) (fun _ => ?_)
              clear hK K
              refine wpAnyH_done (by kernel_rfl) ?_ _
              clear fc0 ff0 fzz
              go_wp2_with fail
              go_meet
              exact ⟨rfl, Lib.hid (fin_of HN.out HP.out HL.out hnx bu29.out ou29.out)⟩
      · have hl := HL.out.blk.below bu25.out (Nat.lt_of_lt_of_le HL.out.lt HXZ.out)
        have fc0 := hl.cell 0
        simp at fc0
        clear hl
        go_simp
        refine hK.out _ _ su25 (fun _ => ?_)
        clear hK K fc0
        refine wpAnyH_ready (rs := [1]) (by kernel_rfl) (by simp) ?_
        refine AllReadyH.cons rfl (fun K hK => ?_) AllReadyH.nil
        · go_simp
          have hb : Below N0 W1 (u25.alloc (.cells #[] 32)) := bu25.out.alloc (Nat.le_trans HNX.out bu25.out.size) _
          have hk : Blk (u25.alloc (.cells #[] 32)) u25.heap.size 32 #[] := Blk.new _ _ _
          have hg0 : N0 ≤ u25.heap.size := Nat.le_trans HNX.out bu25.out.size
          have ho2 := kq.out.alloc (.cells #[] 32)
          have hlt := kq.out.lt
          refine hK.out _ _ (HS1.out _ hb) (fun su31 => ?_)
          clear hK K
          obtain ⟨ge, hg⟩ : ∃ g, g = u25.heap.size := ⟨_, rfl⟩
          rw [← hg] at hk hg0 ⊢
          rw [← hg] at hlt
          generalize u25.alloc (.cells #[] 32) = u31 at hb hk ho2 su31 ⊢
          have bu31 := Lib.hid hb
          have ke := Lib.hid hk
          have g0e := hg0
          have kq := Lib.hid ho2
          have hne : ge ≠ gq := by omega
          clear hb hk hg0 hg ho2 hlt
          refine wpAnyH_ready (rs := [6]) (by kernel_rfl) (by simp) ?_
          refine AllReadyH.cons rfl (fun K hK => ?_) AllReadyH.nil
          · refine step_appV rfl (.tmp 28) (.tmp 32) 27 32 5 32 (.agg #[.int .u64 0, .int .u64 0, .int .i64 0, .bool false, .bool false]) rfl Try.underlying27 info_rpk rfl (by omega) N0 (n := 0) (m := l.op.length) (xs := []) (news := FlV RPkC l.op) (d := c) rfl rfl (own_e0 ke.out g0e) (OwnF.reads (OwnV.below HL.out.own (bu31.out.mono HXZ.out))) (FlV_oneCell RPkC RPkC_one l.op) h63 hby (Nat.le_trans HNX.out bu31.out.size) ?_
            intro A2 c2 u32 hown hg hb _
            have hb2 : Below N0 W1 u32 := bu31.out.trans (hb.mono (Nat.le_refl _))
            have hq2 := kq.out.grown hg (fun e => by simp [Value.ownBlock] at e; exact hne e.symm)
            rw [Nat.zero_add, List.nil_append] at hown
            rw [Nat.zero_add]
            refine hK.out _ _ (HS1.out _ hb2) (fun su32 => ?_)
            clear hK K
            simp only [List.getElem_toArray, List.getElem_cons_succ, List.getElem_cons_zero, Act.put, List.setIfInBounds_toArray, List.set_cons_succ, List.set_cons_zero]
            have bu32 := Lib.hid hb2
            have ou32 := Lib.hid hown
            have kq := Lib.hid hq2
            clear hown hg hb hb2 hq2
            refine wpAnyH_ready (rs := [9]) (by kernel_rfl) (by simp) ?_
            refine AllReadyH.cons rfl (fun K hK => ?_) AllReadyH.nil
            · refine step_appV rfl (.tmp 33) (.tmp 35) 27 32 5 32 (.agg #[.int .u64 0, .int .u64 0, .int .i64 0, .bool false, .bool false]) rfl Try.underlying27 info_rpk rfl (by omega) N0 (n := l.op.length) (m := 1) (xs := FlV RPkC l.op) (news := RPkC ⟨nu, se, si, aq, go⟩) (d := 1) rfl rfl ou32.out (reads_blk kq.out) (RPkC_one _) h63b hbyb (Nat.le_trans HNX.out bu32.out.size) ?_
              intro A3 c3 u33 hown hg hb _
              have hb2 : Below N0 W1 u33 := bu32.out.trans (hb.mono (Nat.le_refl _))
              refine hK.out _ _ (HS1.out _ hb2) (fun su33 => ?_)
              clear hK K
              simp only [List.getElem_toArray, List.getElem_cons_succ, List.getElem_cons_zero, Act.put, List.setIfInBounds_toArray, List.set_cons_succ, List.set_cons_zero]
              have bu33 := Lib.hid hb2
              have ou33 := Lib.hid hown
              clear hown hg hb hb2
              refine wpAnyH_take (i := 10) (oi := ⟨_, _, _, _, _, _⟩) (v := (.pointer (some ⟨x, 0, none⟩))) rfl (by kernel_rfl) (by kernel_rfl) (by kernel_rfl) (fun _ _ _ h => h) (Or.inl ⟨by rfl, fun w' hS => by go_simp⟩) su33 ?_
              simp only [Act.put, List.setIfInBounds_toArray, List.set_cons_zero, List.set_cons_succ]
              refine wpAnyH_take (i := 11) (oi := ⟨_, _, _, _, _, _⟩) (v := (.pointer (some ⟨x, 0, none⟩))) rfl (by kernel_rfl) (by kernel_rfl) (by kernel_rfl) (fun _ _ _ h => h) (Or.inl ⟨by rfl, fun w' hS => by go_simp⟩) su33 ?_
              simp only [Act.put, List.setIfInBounds_toArray, List.set_cons_zero, List.set_cons_succ]
              refine wpAnyH_ready (rs := [12]) (by kernel_rfl) (by simp) ?_
              refine AllReadyH.cons rfl (fun K hK => ?_) AllReadyH.nil
              have hl := HL.out.blk.below bu33.out (Nat.lt_of_lt_of_le HL.out.lt HXZ.out)
              have fc0 := hl.cell 0
              have ff0 := hl.frozen 0
              have fzz := hl.lt
              simp at fc0
              clear hl
              go_simp
              refine hK.out _ _ (HS2.out _ _ bu33.out) (fun _ => ?_)
              clear hK K
              refine wpAnyH_done (by kernel_rfl) ?_ _
              clear fc0 ff0 fzz
              go_wp2_with fail
              go_meet
              exact ⟨rfl, Lib.hid (fin_of HN.out HP.out HL.out hnx bu33.out ou33.out)⟩
  case rest =>
    obtain ⟨rfl, hcc⟩ := hcut
    rename World => wx
    obtain ⟨A1, c1, h9⟩ := hcc.out
    have p0 := h9.pk.cell 0
    have pz := h9.pk.lt
    have x1 := h9.blk.cell 1
    have f1 := h9.blk.frozen 1
    have xz := h9.blk.lt
    simp at p0 x1
    have H9 := Lib.hid h9
    clear h9 hcc
    go_wp2_with fail
    go_ret
    refine ⟨rfl, Lib.hid ⟨A1, c1, ⟨?_, ?_, HL.out.le⟩, ?_, ?_⟩⟩
    · have := H9.out.blk.set_ 1 (.int .u64 (nu + 1))
      simpa using this
    · have ho := OwnV.frm H9.out.own (Frm.setS (Frm.refl wx (fun b => b = x)) (g := x) (i := 1) rfl (.int .u64 (nu + 1))) (fun b hb2 e => by have := OwnV.row_ge' H9.out.own hb2; have := HL.out.lt; have := HN.out; omega)
      have h2 := OwnV.base_le ho hbase
      show OwnV _ _ _ _ _ _ _ _
      rw [FlV_append, FlV_one, List.length_append]
      exact h2
    · exact (HF1.out.trans (Frm.mono H9.out.fr (fun b hb e => .inl e))).setS (.inl rfl) _
    · intro b hb2
      rcases hb2 with e | e
      · exact .inl e
      · have := OwnV.row_ge' H9.out.own (k := b) (by rw [← e]; exact ownBlock_len _ _ _ _ _)
        exact .inr (by omega)
end Go.Proofs.Ytefhbiocddgijaa
