/-
  Open, of what does not bear its tag.
-/
import Derived.Test.YtpedajjmbdjfiaaSaltI
import Derived.Laws.Cover3
namespace Go.Proofs.Ytpedajjmbdjfiaa
open Go.RowKit
set_option linter.unusedVariables false

theorem yields_slice {P : Program} {ops : Array Oper} {S : World → Prop} {op : Oper} {a : Act} {r : Value} (hw : Region.wanted op (yielded ops a.tmps) = true) (t : TypeId) (x : Operand) (lo hi mx : Option Operand) (ho : op.op = .slice t x lo hi mx)
    (h : ∀ w, (Instr.sliceAt t (a.eval x) (lo.map a.eval) (hi.map a.eval) (mx.map a.eval)).run P w = .ok r w) : YieldsIf P ops S op r a :=
  .inl ⟨hw, fun w _ => by
    unfold execOp
    simp only [ho, Sem.run_bind, Sem.run_pure, h w, Result.andThen_ok]⟩
theorem yields_arrayAt {P : Program} {ops : Array Oper} {S : World → Prop} {op : Oper} {a : Act} {r : Value} (hw : Region.wanted op (yielded ops a.tmps) = true) (t : TypeId) (x : Operand) (ho : op.op = .sliceToArrayPointer t x)
    (h : ∀ w, (Instr.arrayAt t (a.eval x)).run P w = .ok r w) : YieldsIf P ops S op r a :=
  .inl ⟨hw, fun w _ => by
    unfold execOp
    simp only [ho, Sem.run_bind, Sem.run_pure, h w, Result.andThen_ok]⟩

set_option maxHeartbeats 1600000 in
theorem Open_seal (key nonce p beside : List Int) (n : Nat) (A B : Option Addr) (c d : Nat) (w : World) (hk : key.length = 32) (hkb : Bytes key) (hnl : nonce.length = 12) (hnb : Bytes nonce)
    (hp : Rd w A p) (hpb : Bytes p) (hpc : p.length ≤ c) (hcm : c ≤ 9223372036854775807) (hb : Rd w B beside) (hbb : Bytes beside) (hdd : beside.length ≤ d) (hdm : d ≤ 9223372036854775807) (hn : p.length = n + 16)
    (hne : sealT key nonce (p.take n) beside ≠ p.drop n) :
    Calls Try.prog 20 #[.agg (IV .u8 key).toArray, .agg (IV .u8 nonce).toArray, .slice A p.length c, .slice B beside.length d] w fun e w' =>
      e = .returned (.tuple #[.slice none 0 0, .int .i64 5]) ∧ Below w.heap.size w w' := by
  have hn1 : (p.length : Int) - 16 = (n : Int) := by omega
  have HNN := Lib.hid hn
  obtain ⟨A1, hS1, hR1, _⟩ := slice_upto A c p n .i64 (by omega) hpc
  obtain ⟨A2, hS2, hR2, _⟩ := slice_from A c p n .i64 (by omega) hpc
  have ht : (p.take n).length = n := by simp; omega
  have hd : (p.drop n).length = 16 := by simp; omega
  rw [ht, ← hn1] at hS1
  rw [hd, ← hn1] at hS2
  have CS := Lib.hid (fun W (hr : Rd W A1 (p.take n)) (hb : Rd W B beside) => sealTag_any key nonce (p.take n) beside A1 B c d W hk hkb hnl hnb hr (hpb.take n) (by omega) hcm hb hbb hdd hdm)
  rw [ht] at CS
  obtain ⟨T, hT⟩ : ∃ T, T = sealT key nonce (p.take n) beside := ⟨_, rfl⟩
  have hTl : T.length = 16 := by rw [hT, sealT_length]
  have hTb : Bytes T := by rw [hT]; exact sealT_bytes _ _ _ _
  rw [← hT] at CS hne
  have CE := same_arr T (p.drop n)
  have CE' := Lib.hid (fun W => CE W hTl hd hTb (hpb.drop n))
  rw [decide_eq_false hne] at CE'
  clear CE
  obtain ⟨D, hD⟩ : ∃ D, D = p.drop n := ⟨_, rfl⟩
  rw [← hD] at CE'
  obtain ⟨KL, hKL⟩ : ∃ KL, KL = IV .u8 key := ⟨_, rfl⟩
  obtain ⟨NL, hNL⟩ : ∃ NL, NL = IV .u8 nonce := ⟨_, rfl⟩
  obtain ⟨DL, hDL⟩ : ∃ DL, DL = IV .u8 D := ⟨_, rfl⟩
  rw [← hKL, ← hNL] at CS ⊢
  rw [← hDL] at CE'
  have SK := (show KL.length = 32 by rw [hKL]; simp [IV, hk])
  have SN := (show NL.length = 12 by rw [hNL]; simp [IV, hnl])
  have SD := (show DL.length = 16 by rw [hDL, hD, IV_length]; exact hd)
  have I32 := Lib.hid (show (Try.prog.info? 22).map (·.size) = some 32 by kernel_rfl)
  have I12 := Lib.hid (show (Try.prog.info? 23).map (·.size) = some 12 by kernel_rfl)
  have I16 := Lib.hid (show (Try.prog.info? 25).map (·.size) = some 16 by kernel_rfl)
  have RA := Lib.hid (hR1 w hp)
  have RB := Lib.hid hb
  have RD := Lib.hid (show Rd w A2 D by rw [hD]; exact hR2 w hp)
  have HDl := Lib.hid (show D.length = 16 by rw [hD]; exact hd)
  have hp16 : (16 : Int) ≤ p.length := by omega
  obtain ⟨bD, oD, hA2, hbD⟩ := RD.out.some_ (by rw [HDl.out]; omega)
  have SDR := Lib.hid (show w.rangeAt bD oD DL by
    have h := RD.out
    rw [hA2] at h
    intro j v hv
    rw [hDL] at hv
    obtain ⟨x, hx, rfl⟩ : ∃ x, D[j]? = some x ∧ .int .u8 x = v := by simpa [IV] using hv
    exact h.cell hx)
  have hArr : ∀ W : World, (Instr.arrayAt 25 (.slice A2 16 (c - n))).run Try.prog W = .ok (.pointer (some ⟨bD, oD, none⟩)) W := fun W => by
    have h := run_arrayAt (P := Try.prog) (w := W) 25 5 16 A2 16 (c - n) Try.underlying25 (Nat.le_refl _)
    rw [hA2] at h ⊢
    exact h
  have HBD := Lib.hid hbD
  clear hn hn1 hKL hNL hDL hA2 hbD hk hkb hnl hnb hT hTl hTb hD hp hb hpb hbb hne ht hd hR1 hR2
  go_enter Try.func20, Try.ntmps20
  go_wp2_with fail
  obtain ⟨W, hW⟩ : ∃ W, W = (w.alloc (.cells KL.toArray 22)).alloc (.cells NL.toArray 23) := ⟨_, rfl⟩
  have bK : Blk W w.heap.size 22 KL.toArray := by rw [hW]; exact (Blk.new w _ _).alloc _
  have bN : Blk W (w.heap.size + 1) 23 NL.toArray := by rw [hW]; exact blk_second w _ _ _
  have bL : Below w.heap.size w W := by rw [hW]; exact ((Below.refl _ _).alloc (Nat.le_refl _) _).alloc (by simp) _
  show Code.wp _ _ _ _ ((w.alloc (.cells KL.toArray 22)).alloc (.cells NL.toArray 23))
  rw [← hW]
  obtain ⟨gN, hgN⟩ : ∃ g, g = w.heap.size + 1 := ⟨_, rfl⟩
  rw [← hgN] at bN ⊢
  have HGN := Lib.hid hgN
  clear hW hgN
  have KS := Lib.hid (show ∀ w', Below W.heap.size W.drew w' → (w'.rangeAt w.heap.size 0 KL ∧ w'.rangeAt gN 0 NL ∧ w'.rangeAt bD oD DL) from fun w' hb => by
    refine ⟨((show Blk W.drew w.heap.size _ _ from bK).below hb bK.lt).range, ((show Blk W.drew gN _ _ from bN).below hb bN.lt).range, fun j v hv => ?_⟩
    have h1 := SDR.out j v hv
    have e1 : W.drew.cell? ⟨bD, oD + j, none⟩ = w.cell? ⟨bD, oD + j, none⟩ := bL.drew.cell (p := ⟨bD, oD + j, none⟩) HBD.out
    have e2 : w'.cell? ⟨bD, oD + j, none⟩ = W.drew.cell? ⟨bD, oD + j, none⟩ := hb.cell (p := ⟨bD, oD + j, none⟩) (by have h1 := HBD.out; have h2 := bL.size; show bD < W.heap.size; omega)
    rw [e2, e1, h1])
  have CT := Lib.hid (CS.out W.drew (RA.out.below bL.drew) (RB.out.below bL.drew))
  have BLW := Lib.hid bL
  have hu32 := Try.underlying22
  have hu12 := Try.underlying23
  have hu16 := Try.underlying25
  have hi32 : (Try.prog.info? 22).map (·.size) = some KL.length := by rw [SK]; exact I32.out
  have hi12 : (Try.prog.info? 23).map (·.size) = some NL.length := by rw [SN]; exact I12.out
  have hi16 : (Try.prog.info? 25).map (·.size) = some DL.length := by rw [SD]; exact I16.out
  clear bK bN bL CS SDR
  refine wp_region_held_drew (S := fun w' => w'.rangeAt w.heap.size 0 KL ∧ w'.rangeAt gN 0 NL ∧ w'.rangeAt bD oD DL) (by kernel_rfl) (KS.out _ (Below.refl _ _)) (fun hHeld => ?_)
  refine wpAnyH_take (i := 0) (oi := { dst := some 18, op := .load 22 (.tmp 4), type := 22, pos := "salt.go:43", after := #[], guard := none }) rfl (by kernel_rfl) (by kernel_rfl) (by kernel_rfl) (fun _ _ _ h => h) (yieldsIf_load_mid (by rfl) 22 (.tmp 4) rfl w.heap.size 0 rfl KL _ (fun w h => h.1) hu32 rfl hi32) hHeld ?_
  simp only [Act.put, List.setIfInBounds_toArray, List.set_cons_zero, List.set_cons_succ]
  refine wpAnyH_take (i := 1) (oi := { dst := some 19, op := .load 23 (.tmp 5), type := 23, pos := "salt.go:43", after := #[], guard := none }) rfl (by kernel_rfl) (by kernel_rfl) (by kernel_rfl) (fun _ _ _ h => h) (yieldsIf_load_mid (by rfl) 23 (.tmp 5) rfl gN 0 rfl NL _ (fun w h => h.2.1) hu12 rfl hi12) hHeld ?_
  simp only [Act.put, List.setIfInBounds_toArray, List.set_cons_zero, List.set_cons_succ]
  refine wpAnyH_take (i := 2) (oi := { dst := some 20, op := .move (.tmp 2), type := 27, pos := "salt.go:43", after := #[], guard := none }) (v := .slice A p.length c) rfl (by kernel_rfl) (by kernel_rfl) (by kernel_rfl) (fun _ _ _ h => h) (Or.inl ⟨by rfl, fun w _ => rfl⟩) hHeld ?_
  simp only [Act.put, List.setIfInBounds_toArray, List.set_cons_zero, List.set_cons_succ]
  refine wpAnyH_take (i := 3) (oi := { dst := some 21, op := .move (.tmp 10), type := 3, pos := "salt.go:43", after := #[], guard := none }) (v := .int .i64 ((p.length : Int) - 16)) rfl (by kernel_rfl) (by kernel_rfl) (by kernel_rfl) (fun _ _ _ h => h) (Or.inl ⟨by rfl, fun w _ => rfl⟩) hHeld ?_
  simp only [Act.put, List.setIfInBounds_toArray, List.set_cons_zero, List.set_cons_succ]
  refine wpAnyH_take (i := 4) (oi := { dst := some 22, op := .slice 27 (.tmp 20) none (some (.tmp 21)) none, type := 27, pos := "salt.go:43", after := #[{ on := 2, ground := .data }, { on := 3, ground := .data }], guard := none }) (v := .slice A1 n c) rfl (by kernel_rfl) (by kernel_rfl) (by kernel_rfl) (fun _ _ _ h => h) (yields_slice (by rfl) 27 (.tmp 20) none (some (.tmp 21)) none rfl (fun w => hS1 w)) hHeld ?_
  simp only [Act.put, List.setIfInBounds_toArray, List.set_cons_zero, List.set_cons_succ]
  refine wpAnyH_take (i := 5) (oi := { dst := some 23, op := .move (.tmp 3), type := 27, pos := "salt.go:43", after := #[], guard := none }) (v := .slice B beside.length d) rfl (by kernel_rfl) (by kernel_rfl) (by kernel_rfl) (fun _ _ _ h => h) (Or.inl ⟨by rfl, fun w _ => rfl⟩) hHeld ?_
  simp only [Act.put, List.setIfInBounds_toArray, List.set_cons_zero, List.set_cons_succ]
  refine wpAnyH_take (i := 7) (oi := { dst := some 25, op := .move (.tmp 2), type := 27, pos := "salt.go:43", after := #[], guard := none }) (v := .slice A p.length c) rfl (by kernel_rfl) (by kernel_rfl) (by kernel_rfl) (fun _ _ _ h => h) (Or.inl ⟨by rfl, fun w _ => rfl⟩) hHeld ?_
  simp only [Act.put, List.setIfInBounds_toArray, List.set_cons_zero, List.set_cons_succ]
  refine wpAnyH_take (i := 8) (oi := { dst := some 26, op := .move (.tmp 10), type := 3, pos := "salt.go:43", after := #[], guard := none }) (v := .int .i64 ((p.length : Int) - 16)) rfl (by kernel_rfl) (by kernel_rfl) (by kernel_rfl) (fun _ _ _ h => h) (Or.inl ⟨by rfl, fun w _ => rfl⟩) hHeld ?_
  simp only [Act.put, List.setIfInBounds_toArray, List.set_cons_zero, List.set_cons_succ]
  refine wpAnyH_take (i := 9) (oi := { dst := some 27, op := .slice 27 (.tmp 25) (some (.tmp 26)) none none, type := 27, pos := "salt.go:43", after := #[{ on := 7, ground := .data }, { on := 8, ground := .data }], guard := none }) (v := .slice A2 16 (c - n)) rfl (by kernel_rfl) (by kernel_rfl) (by kernel_rfl) (fun _ _ _ h => h) (yields_slice (by rfl) 27 (.tmp 25) (some (.tmp 26)) none none rfl (fun w => hS2 w)) hHeld ?_
  simp only [Act.put, List.setIfInBounds_toArray, List.set_cons_zero, List.set_cons_succ]
  refine wpAnyH_take (i := 10) (oi := { dst := some 28, op := .sliceToArrayPointer 25 (.tmp 27), type := 0, pos := "salt.go:43", after := #[{ on := 9, ground := .data }], guard := none }) (v := .pointer (some ⟨bD, oD, none⟩)) rfl (by kernel_rfl) (by kernel_rfl) (by kernel_rfl) (fun _ _ _ h => h) (yields_arrayAt (by rfl) 25 (.tmp 27) rfl (fun w => hArr w)) hHeld ?_
  simp only [Act.put, List.setIfInBounds_toArray, List.set_cons_zero, List.set_cons_succ]
  refine wpAnyH_take (i := 11) (oi := { dst := some 29, op := .load 25 (.tmp 28), type := 25, pos := "salt.go:43", after := #[{ on := 10, ground := .data }], guard := none }) rfl (by kernel_rfl) (by kernel_rfl) (by kernel_rfl) (fun _ _ _ h => h) (yieldsIf_load_mid (by rfl) 25 (.tmp 28) rfl bD oD rfl DL _ (fun w h => h.2.2) hu16 rfl hi16) hHeld ?_
  simp only [Act.put, List.setIfInBounds_toArray, List.set_cons_zero, List.set_cons_succ]
  refine wpAnyH_ready (rs := [6]) (by kernel_rfl) (by simp) ?_
  refine AllReadyH.cons rfl (fun K hK => ?_) AllReadyH.nil
  go_simp
  refine CT.out.mono ?_
  rintro e w5 ⟨rfl, b5⟩
  refine hK.out _ _ (KS.out _ b5) (fun hHeld5 => ?_)
  clear hK K
  refine wpAnyH_ready (rs := [12]) (by kernel_rfl) (by simp) ?_
  refine AllReadyH.cons rfl (fun K hK => ?_) AllReadyH.nil
  go_simp
  refine (CE'.out w5).mono ?_
  rintro e w6 ⟨rfl, b6'⟩
  have b6 : Below W.heap.size W.drew w6 := b5.trans (b6'.mono b5.size)
  refine hK.out _ _ (KS.out _ b6) (fun hHeld6 => ?_)
  clear hK K
  refine wpAnyH_take (i := 13) (oi := { dst := some 31, op := .unOp .not 4 (.tmp 30), type := 4, pos := "salt.go:43", after := #[{ on := 12, ground := .data }], guard := none }) (v := .bool true) rfl (by kernel_rfl) (by kernel_rfl) (by kernel_rfl) (fun _ _ _ h => h) (Or.inl ⟨by rfl, fun w _ => by go_simp⟩) hHeld6 ?_
  simp only [Act.put, List.setIfInBounds_toArray, List.set_cons_zero, List.set_cons_succ]
  refine wpAnyH_done (by kernel_rfl) ?_ _
  have BL6 := Lib.hid (BLW.out.drew.trans (b6.mono BLW.out.size))
  clear b5 b6 b6' hHeld hHeld5 hHeld6 KS CT CE'
  go_wp2_with fail
  go_ret2
  exact ⟨rfl, BL6.out⟩
end Go.Proofs.Ytpedajjmbdjfiaa
