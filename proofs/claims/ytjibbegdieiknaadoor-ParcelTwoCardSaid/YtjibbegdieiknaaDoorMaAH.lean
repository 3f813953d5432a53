/-
  Open, of what does not bear its tag.
-/
import Derived.Test.YtjibbegdieiknaaDoorMaAG
import Derived.Laws.Cover3
import Derived.Test.YtjibbegdieiknaaDoorMaAA
namespace Go.Proofs.YtjibbegdieiknaaDoor
set_option maxRecDepth 100000
open Go.RowKit
set_option linter.unusedVariables false

theorem yields_slice {P : Program} {ops : Array Oper} {S : World → Prop} {op : Oper} {a : Act} {r : Value} (hw : Region.wanted op (yielded ops a.tmps) = true) (t : TypeId) (x : Operand) (lo hi mx : Option Operand) (ho : op.op = .slice t x lo hi mx)
    (h : ∀ w, (Instr.sliceAt t (a.eval x) (lo.map a.eval) (hi.map a.eval) (mx.map a.eval)).run P w = .ok r w) : YieldsIf P ops S op r a :=
  .inl ⟨hw, fun w _ => by
    unfold execOp
    simp only [ho, Sem.run_bind, Sem.run_pure, h w, Result.andThen_ok]⟩
theorem yields_arrayAt {P : Program} {ops : Array Oper} {S : World → Prop} {op : Oper} {a : Act} {r : Value} (hw : Region.wanted op (yielded ops a.tmps) = true) (t : TypeId) (x : Operand) (ho : op.op = .sliceToArrayPointer t x)
    (h : ∀ w, (Instr.arrayAt t (a.eval x)).run P w = .ok r w) : YieldsIf P ops S op r a :=
  .inl ⟨hw, fun w _ => by
    unfold execOp
    simp only [ho, Sem.run_bind, Sem.run_pure, h w, Result.andThen_ok]⟩

set_option maxHeartbeats 1600000 in
theorem Open_seal (key nonce p beside : List Int) (n : Nat) (A B : Option Addr) (c d : Nat) (w : World) (hk : key.length = 32) (hkb : Bytes key) (hnl : nonce.length = 12) (hnb : Bytes nonce)
    (hp : Rd w A p) (hpb : Bytes p) (hpc : p.length ≤ c) (hcm : c ≤ 9223372036854775807) (hb : Rd w B beside) (hbb : Bytes beside) (hdd : beside.length ≤ d) (hdm : d ≤ 9223372036854775807) (hn : p.length = n + 16)
    (hne : sealT key nonce (p.take n) beside ≠ p.drop n) :
    Calls Tryd.prog 31 #[.agg (IV .u8 key).toArray, .agg (IV .u8 nonce).toArray, .slice A p.length c, .slice B beside.length d] w fun e w' =>
      e = .returned (.tuple #[.slice none 0 0, .int .i64 5]) ∧ Below w.heap.size w w' := by
  have hn1 : (p.length : Int) - 16 = (n : Int) := by omega
  have HNN := Lib.hid hn
  obtain ⟨A1, hS1, hR1, _⟩ := slice_upto A c p n .i64 (by omega) hpc
  obtain ⟨A2, hS2, hR2, _⟩ := slice_from A c p n .i64 (by omega) hpc
  have ht : (p.take n).length = n := by simp; omega
  have hd : (p.drop n).length = 16 := by simp; omega
  rw [ht, ← hn1] at hS1
  rw [hd, ← hn1] at hS2
  have CS := Lib.hid (fun W (hr : Rd W A1 (p.take n)) (hb : Rd W B beside) => sealTag_any key nonce (p.take n) beside A1 B c d W hk hkb hnl hnb hr (hpb.take n) (by omega) hcm hb hbb hdd hdm)
  rw [ht] at CS
  obtain ⟨T, hT⟩ : ∃ T, T = sealT key nonce (p.take n) beside := ⟨_, rfl⟩
  have hTl : T.length = 16 := by rw [hT, sealT_length]
  have hTb : Bytes T := by rw [hT]; exact sealT_bytes _ _ _ _
  rw [← hT] at CS hne
  have CE := same_arr T (p.drop n)
  have CE' := Lib.hid (fun W => CE W hTl hd hTb (hpb.drop n))
  rw [decide_eq_false hne] at CE'
  clear CE
  obtain ⟨D, hD⟩ : ∃ D, D = p.drop n := ⟨_, rfl⟩
  rw [← hD] at CE'
  obtain ⟨KL, hKL⟩ : ∃ KL, KL = IV .u8 key := ⟨_, rfl⟩
  obtain ⟨NL, hNL⟩ : ∃ NL, NL = IV .u8 nonce := ⟨_, rfl⟩
  obtain ⟨DL, hDL⟩ : ∃ DL, DL = IV .u8 D := ⟨_, rfl⟩
  rw [← hKL, ← hNL] at CS ⊢
  rw [← hDL] at CE'
  have SK := (show KL.length = 32 by rw [hKL]; simp [IV, hk])
  have SN := (show NL.length = 12 by rw [hNL]; simp [IV, hnl])
  have SD := (show DL.length = 16 by rw [hDL, hD, IV_length]; exact hd)
  have I32 := Lib.hid (show (Tryd.prog.info? 22).map (·.size) = some 32 by kernel_rfl)
  have I12 := Lib.hid (show (Tryd.prog.info? 32).map (·.size) = some 12 by kernel_rfl)
  have I16 := Lib.hid (show (Tryd.prog.info? 78).map (·.size) = some 16 by kernel_rfl)
  have RA := Lib.hid (hR1 w hp)
  have RB := Lib.hid hb
  have RD := Lib.hid (show Rd w A2 D by rw [hD]; exact hR2 w hp)
  have HDl := Lib.hid (show D.length = 16 by rw [hD]; exact hd)
  have hp16 : (16 : Int) ≤ p.length := by omega
  obtain ⟨bD, oD, hA2, hbD⟩ := RD.out.some_ (by rw [HDl.out]; omega)
  have SDR := Lib.hid (show w.rangeAt bD oD DL by
    have h := RD.out
    rw [hA2] at h
    intro j v hv
    rw [hDL] at hv
    obtain ⟨x, hx, rfl⟩ : ∃ x, D[j]? = some x ∧ .int .u8 x = v := by simpa [IV] using hv
    exact h.cell hx)
  have hArr : ∀ W : World, (Instr.arrayAt 78 (.slice A2 16 (c - n))).run Tryd.prog W = .ok (.pointer (some ⟨bD, oD, none⟩)) W := fun W => by
    have h := run_arrayAt (P := Tryd.prog) (w := W) 78 5 16 A2 16 (c - n) Tryd.underlying78 (Nat.le_refl _)
    rw [hA2] at h ⊢
    exact h
  have HBD := Lib.hid hbD
  clear hn hn1 hKL hNL hDL hA2 hbD hk hkb hnl hnb hT hTl hTb hD hp hb hpb hbb hne ht hd hR1 hR2
  go_enter Tryd.func31, Tryd.ntmps31
  go_wp2_with fail
  obtain ⟨W, hW⟩ : ∃ W, W = (w.alloc (.cells KL.toArray 22)).alloc (.cells NL.toArray 32) := ⟨_, rfl⟩
  have bK : Blk W w.heap.size 22 KL.toArray := by rw [hW]; exact (Blk.new w _ _).alloc _
  have bN : Blk W (w.heap.size + 1) 32 NL.toArray := by rw [hW]; exact blk_second w _ _ _
  have bL : Below w.heap.size w W := by rw [hW]; exact ((Below.refl _ _).alloc (Nat.le_refl _) _).alloc (by simp) _
  show Code.wp _ _ _ _ ((w.alloc (.cells KL.toArray 22)).alloc (.cells NL.toArray 32))
  rw [← hW]
  obtain ⟨gN, hgN⟩ : ∃ g, g = w.heap.size + 1 := ⟨_, rfl⟩
  rw [← hgN] at bN ⊢
  have HGN := Lib.hid hgN
  clear hW hgN
  have KS := Lib.hid (show ∀ w', Below W.heap.size W.drew w' → (w'.rangeAt w.heap.size 0 KL ∧ w'.rangeAt gN 0 NL ∧ w'.rangeAt bD oD DL) from fun w' hb => by
    refine ⟨((show Blk W.drew w.heap.size _ _ from bK).below hb bK.lt).range, ((show Blk W.drew gN _ _ from bN).below hb bN.lt).range, fun j v hv => ?_⟩
    have h1 := SDR.out j v hv
    have e1 : W.drew.cell? ⟨bD, oD + j, none⟩ = w.cell? ⟨bD, oD + j, none⟩ := bL.drew.cell (p := ⟨bD, oD + j, none⟩) HBD.out
    have e2 : w'.cell? ⟨bD, oD + j, none⟩ = W.drew.cell? ⟨bD, oD + j, none⟩ := hb.cell (p := ⟨bD, oD + j, none⟩) (by have h1 := HBD.out; have h2 := bL.size; show bD < W.heap.size; omega)
    rw [e2, e1, h1])
  have CT := Lib.hid (CS.out W.drew (RA.out.below bL.drew) (RB.out.below bL.drew))
  have BLW := Lib.hid bL
  have hu32 := Tryd.underlying22
  have hu12 := Tryd.underlying32
  have hu16 := Tryd.underlying78
  have hi32 : (Tryd.prog.info? 22).map (·.size) = some KL.length := by rw [SK]; exact I32.out
  have hi12 : (Tryd.prog.info? 32).map (·.size) = some NL.length := by rw [SN]; exact I12.out
  have hi16 : (Tryd.prog.info? 78).map (·.size) = some DL.length := by rw [SD]; exact I16.out
  clear bK bN bL CS SDR
  refine wp_region_held_drew (S := fun w' => w'.rangeAt w.heap.size 0 KL ∧ w'.rangeAt gN 0 NL ∧ w'.rangeAt bD oD DL) (by kernel_rfl) (KS.out _ (Below.refl _ _)) (fun hHeld => ?_)
  refine wpAnyH_take (i := 0) (oi := { dst := some 18, op := .load 22 (.tmp 4), type := 22, pos := "salt.go:43", after := #[], guard := none }) rfl (by kernel_rfl) (by kernel_rfl) (by kernel_rfl) (fun _ _ _ h => h) (yieldsIf_load_mid (by rfl) 22 (.tmp 4) rfl w.heap.size 0 rfl KL _ (fun w h => h.1) hu32 rfl hi32) hHeld ?_
  simp only [Act.put, List.setIfInBounds_toArray, List.set_cons_zero, List.set_cons_succ]
  refine wpAnyH_take (i := 1) (oi := { dst := some 19, op := .load 32 (.tmp 5), type := 32, pos := "salt.go:43", after := #[], guard := none }) rfl (by kernel_rfl) (by kernel_rfl) (by kernel_rfl) (fun _ _ _ h => h) (yieldsIf_load_mid (by rfl) 32 (.tmp 5) rfl gN 0 rfl NL _ (fun w h => h.2.1) hu12 rfl hi12) hHeld ?_
  simp only [Act.put, List.setIfInBounds_toArray, List.set_cons_zero, List.set_cons_succ]
  refine wpAnyH_take (i := 2) (oi := { dst := some 20, op := .move (.tmp 2), type := 23, pos := "salt.go:43", after := #[], guard := none }) (v := .slice A p.length c) rfl (by kernel_rfl) (by kernel_rfl) (by kernel_rfl) (fun _ _ _ h => h) (Or.inl ⟨by rfl, fun w _ => rfl⟩) hHeld ?_
  simp only [Act.put, List.setIfInBounds_toArray, List.set_cons_zero, List.set_cons_succ]
  refine wpAnyH_take (i := 3) (oi := { dst := some 21, op := .move (.tmp 10), type := 3, pos := "salt.go:43", after := #[], guard := none }) (v := .int .i64 ((p.length : Int) - 16)) rfl (by kernel_rfl) (by kernel_rfl) (by kernel_rfl) (fun _ _ _ h => h) (Or.inl ⟨by rfl, fun w _ => rfl⟩) hHeld ?_
  simp only [Act.put, List.setIfInBounds_toArray, List.set_cons_zero, List.set_cons_succ]
  refine wpAnyH_take (i := 4) (oi := { dst := some 22, op := .slice 23 (.tmp 20) none (some (.tmp 21)) none, type := 23, pos := "salt.go:43", after := #[{ on := 2, ground := .data }, { on := 3, ground := .data }], guard := none }) (v := .slice A1 n c) rfl (by kernel_rfl) (by kernel_rfl) (by kernel_rfl) (fun _ _ _ h => h) (yields_slice (by rfl) 23 (.tmp 20) none (some (.tmp 21)) none rfl (fun w => hS1 w)) hHeld ?_
  simp only [Act.put, List.setIfInBounds_toArray, List.set_cons_zero, List.set_cons_succ]
  refine wpAnyH_take (i := 5) (oi := { dst := some 23, op := .move (.tmp 3), type := 23, pos := "salt.go:43", after := #[], guard := none }) (v := .slice B beside.length d) rfl (by kernel_rfl) (by kernel_rfl) (by kernel_rfl) (fun _ _ _ h => h) (Or.inl ⟨by rfl, fun w _ => rfl⟩) hHeld ?_
  simp only [Act.put, List.setIfInBounds_toArray, List.set_cons_zero, List.set_cons_succ]
  refine wpAnyH_take (i := 7) (oi := { dst := some 25, op := .move (.tmp 2), type := 23, pos := "salt.go:43", after := #[], guard := none }) (v := .slice A p.length c) rfl (by kernel_rfl) (by kernel_rfl) (by kernel_rfl) (fun _ _ _ h => h) (Or.inl ⟨by rfl, fun w _ => rfl⟩) hHeld ?_
  simp only [Act.put, List.setIfInBounds_toArray, List.set_cons_zero, List.set_cons_succ]
  refine wpAnyH_take (i := 8) (oi := { dst := some 26, op := .move (.tmp 10), type := 3, pos := "salt.go:43", after := #[], guard := none }) (v := .int .i64 ((p.length : Int) - 16)) rfl (by kernel_rfl) (by kernel_rfl) (by kernel_rfl) (fun _ _ _ h => h) (Or.inl ⟨by rfl, fun w _ => rfl⟩) hHeld ?_
  simp only [Act.put, List.setIfInBounds_toArray, List.set_cons_zero, List.set_cons_succ]
  refine wpAnyH_take (i := 9) (oi := { dst := some 27, op := .slice 23 (.tmp 25) (some (.tmp 26)) none none, type := 23, pos := "salt.go:43", after := #[{ on := 7, ground := .data }, { on := 8, ground := .data }], guard := none }) (v := .slice A2 16 (c - n)) rfl (by kernel_rfl) (by kernel_rfl) (by kernel_rfl) (fun _ _ _ h => h) (yields_slice (by rfl) 23 (.tmp 25) (some (.tmp 26)) none none rfl (fun w => hS2 w)) hHeld ?_
  simp only [Act.put, List.setIfInBounds_toArray, List.set_cons_zero, List.set_cons_succ]
  refine wpAnyH_take (i := 10) (oi := { dst := some 28, op := .sliceToArrayPointer 78 (.tmp 27), type := 0, pos := "salt.go:43", after := #[{ on := 9, ground := .data }], guard := none }) (v := .pointer (some ⟨bD, oD, none⟩)) rfl (by kernel_rfl) (by kernel_rfl) (by kernel_rfl) (fun _ _ _ h => h) (yields_arrayAt (by rfl) 78 (.tmp 27) rfl (fun w => hArr w)) hHeld ?_
  simp only [Act.put, List.setIfInBounds_toArray, List.set_cons_zero, List.set_cons_succ]
  refine wpAnyH_take (i := 11) (oi := { dst := some 29, op := .load 78 (.tmp 28), type := 78, pos := "salt.go:43", after := #[{ on := 10, ground := .data }], guard := none }) rfl (by kernel_rfl) (by kernel_rfl) (by kernel_rfl) (fun _ _ _ h => h) (yieldsIf_load_mid (by rfl) 78 (.tmp 28) rfl bD oD rfl DL _ (fun w h => h.2.2) hu16 rfl hi16) hHeld ?_
  simp only [Act.put, List.setIfInBounds_toArray, List.set_cons_zero, List.set_cons_succ]
  refine wpAnyH_ready (rs := [6]) (by kernel_rfl) (by simp) ?_
  refine AllReadyH.cons rfl (fun K hK => ?_) AllReadyH.nil
  go_simp
  refine CT.out.mono ?_
  rintro e w5 ⟨rfl, b5⟩
  refine hK.out _ _ (KS.out _ b5) (fun hHeld5 => ?_)
  clear hK K
  refine wpAnyH_ready (rs := [12]) (by kernel_rfl) (by simp) ?_
  refine AllReadyH.cons rfl (fun K hK => ?_) AllReadyH.nil
  go_simp
  refine (CE'.out w5).mono ?_
  rintro e w6 ⟨rfl, b6'⟩
  have b6 : Below W.heap.size W.drew w6 := b5.trans (b6'.mono b5.size)
  refine hK.out _ _ (KS.out _ b6) (fun hHeld6 => ?_)
  clear hK K
  refine wpAnyH_take (i := 13) (oi := { dst := some 31, op := .unOp .not 4 (.tmp 30), type := 4, pos := "salt.go:43", after := #[{ on := 12, ground := .data }], guard := none }) (v := .bool true) rfl (by kernel_rfl) (by kernel_rfl) (by kernel_rfl) (fun _ _ _ h => h) (Or.inl ⟨by rfl, fun w _ => by go_simp⟩) hHeld6 ?_
  simp only [Act.put, List.setIfInBounds_toArray, List.set_cons_zero, List.set_cons_succ]
  refine wpAnyH_done (by kernel_rfl) ?_ _
  have BL6 := Lib.hid (BLW.out.drew.trans (b6.mono BLW.out.size))
  clear b5 b6 b6' hHeld hHeld5 hHeld6 KS CT CE'
  go_wp2_with fail
  go_ret2
  exact ⟨rfl, BL6.out⟩
end Go.Proofs.YtjibbegdieiknaaDoor

/-
  salt.Mask.
-/
namespace Go.Proofs.YtjibbegdieiknaaDoor
open Go.RowKit
set_option maxRecDepth 100000
set_option linter.unusedVariables false
set_option linter.unusedSimpArgs false

/-- The mask of a sample. -/
def maskL (key sample : List Int) : List Int := stream key (sample.drop 4) (w4 sample 0) 5
theorem maskL_length (key sample : List Int) : (maskL key sample).length = 5 := stream_length _ _ _ _
theorem maskL_bytes (key sample : List Int) : Bytes (maskL key sample) := stream_bytes _ _ _ _
theorem zero5 (w : World) : (zeroValue 59).run Tryd.prog w = .ok (.agg (IV .u8 (List.replicate 5 0)).toArray) w := rfl
theorem arr5_len : Tryd.prog.arrayLen 59 = 5 := by kernel_rfl
theorem arr5_elem : Tryd.prog.elem 59 = 5 := by kernel_rfl
theorem slice_arr5z (g : Nat) (w : World) :
    (Instr.sliceAt 59 (.pointer (some ⟨g, 0, none⟩)) none none none).run Tryd.prog w = .ok (.slice (some ⟨g, 0, none⟩) 5 5) w := by
  rw [run_sliceAt_array_all (P := Tryd.prog) w 59 ⟨g, 0, none⟩ (by rw [arr5_len, arr5_elem]; exact Tryd.underlying59), arr5_elem, run_sizeOf_u8, arr5_len]
  simp [slicedAt, Addr.add]
theorem slice_arr16_4 (g : Nat) (w : World) :
    (Instr.sliceAt 78 (.pointer (some ⟨g, 0, none⟩)) (some (.int .i64 4)) none none).run Tryd.prog w = .ok (.slice (some ⟨g, 4, none⟩) 12 12) w := by
  rw [run_sliceAt_array_l (P := Tryd.prog) w 78 ⟨g, 0, none⟩ (by rw [arr16_len, arr16_elem]; exact Tryd.underlying78) .i64 4 (by omega) (by rw [arr16_len]; omega), arr16_elem, run_sizeOf_u8, arr16_len]
  simp [slicedAt, Addr.add]
theorem grown_drewN {a w : World} {row : Option Nat} (h : a.grownBy w row) (n : Nat) : a.grownBy (w.drewN n) row := ⟨h.os, h.tape, h.output, h.size, h.block⟩

set_option maxHeartbeats 1600000 in
theorem Mask_any (key sample : List Int) (w : World) (hk : key.length = 32) (hkb : Bytes key) (hs : sample.length = 16) (hsb : Bytes sample) :
    Calls Tryd.prog 42 #[.agg (IV .u8 key).toArray, .agg (IV .u8 sample).toArray] w fun r w' => r = .returned (.agg (IV .u8 (maskL key sample)).toArray) ∧ Below w.heap.size w w' := by
  obtain ⟨KL, hKL⟩ : ∃ KL, KL = IV .u8 key := ⟨_, rfl⟩
  obtain ⟨SL, hSL⟩ : ∃ SL, SL = IV .u8 sample := ⟨_, rfl⟩
  obtain ⟨NL, hNL⟩ : ∃ NL, NL = IV .u8 (sample.drop 4) := ⟨_, rfl⟩
  have hndl : (sample.drop 4).length = 12 := by simp; omega
  have CX := Lib.hid (fun (g : Nat) W (hb : Blk W g 59 (IV .u8 (List.replicate 5 0)).toArray) => xor_any g 59 (List.replicate 5 0) [] 5 key (sample.drop 4) (w4 sample 0) W (by rw [List.append_nil]; exact hb) (zeros_bytes 5) (by simp) (by omega) hk hkb hndl (hsb.drop 4) (w4_ok hsb 0))
  have CW := Lib.hid (fun (g : Nat) W (hb : Blk W g 78 (IV .u8 sample).toArray) => word_of hb hsb 0 16 16 (by omega) (by omega) (by omega))
  rw [List.length_replicate, xorb_stream, List.append_nil, ← hKL, ← hNL] at CX
  obtain ⟨OA, hOA⟩ : ∃ OA, OA = (IV .u8 (maskL key sample)).toArray := ⟨_, rfl⟩
  rw [show (IV .u8 (stream key (sample.drop 4) (w4 sample 0) 5)).toArray = OA from hOA.symm] at CX
  rw [← hSL] at CW
  rw [← hOA, ← hKL, ← hSL]
  obtain ⟨WD, hWD⟩ : ∃ WD, WD = w4 sample 0 := ⟨_, rfl⟩
  rw [← hWD] at CX CW
  have SK : KL.length = 32 := by rw [hKL]; simp [IV, hk]
  have SN : NL.length = 12 := by rw [hNL, IV_length]; exact hndl
  have SOA := Lib.hid (show OA.size = 5 by rw [hOA]; simp [IV, maskL_length])
  have AO := Lib.hid (show OA.all (·.oneCell') = true by rw [hOA]; simp [IV, Value.oneCell'])
  have I32 := Lib.hid (show (Tryd.prog.info? 22).map (·.size) = some 32 by kernel_rfl)
  have I12 := Lib.hid (show (Tryd.prog.info? 32).map (·.size) = some 12 by kernel_rfl)
  have I5 := Lib.hid (show (Tryd.prog.info? 59).map (·.size) = some 5 by kernel_rfl)
  have HSN := Lib.hid (show ∀ j : Nat, NL[j]? = SL[4 + j]? by intro j; rw [hNL, hSL]; simp [IV])
  have hu32 := Tryd.underlying22
  have hu12 := Tryd.underlying32
  have hi32 : (Tryd.prog.info? 22).map (·.size) = some KL.length := by rw [SK]; exact I32.out
  have hi12 : (Tryd.prog.info? 32).map (·.size) = some NL.length := by rw [SN]; exact I12.out
  obtain ⟨Z, hZ⟩ : ∃ Z, Z = (IV .u8 (List.replicate 5 0)).toArray := ⟨_, rfl⟩
  have hz5 : ∀ w, (zeroValue 59).run Tryd.prog w = .ok (.agg Z) w := by rw [hZ]; exact zero5
  have ZS := Lib.hid (show Z.size = 5 by rw [hZ]; rfl)
  rw [← hZ] at CX
  clear hKL hSL hNL hOA hWD hZ hk hkb hs hsb hndl
  go_enter Tryd.func42, Tryd.ntmps42
  go_wp2_with fail
  obtain ⟨W, hW⟩ : ∃ W, W = (((w.alloc (.cells KL.toArray 22)).alloc (.cells SL.toArray 78)).alloc (.cells Z 59)).alloc (.cells Z 59) := ⟨_, rfl⟩
  have bK : Blk W w.heap.size 22 KL.toArray := by rw [hW]; exact (((Blk.new w _ _).alloc _).alloc _).alloc _
  have bS : Blk W (w.heap.size + 1) 78 SL.toArray := by rw [hW]; exact ((blk_second w _ _ _).alloc _).alloc _
  have bR : Blk W (w.heap.size + 1 + 1) 59 Z := by
    have h := (blk_second (w.alloc (.cells KL.toArray 22)) (.cells SL.toArray 78) 59 Z).alloc (.cells Z 59)
    rw [hW]; simpa using h
  have bO : Blk W (w.heap.size + 1 + 1 + 1) 59 Z := by
    have h := blk_second ((w.alloc (.cells KL.toArray 22)).alloc (.cells SL.toArray 78)) (.cells Z 59) 59 Z
    rw [hW]; simpa using h
  have bL : Below w.heap.size w W := by rw [hW]; exact ((((Below.refl _ _).alloc (Nat.le_refl _) _).alloc (by simp) _).alloc (by simp; omega) _).alloc (by simp; omega) _
  show Code.wp _ _ _ _ ((((w.alloc (.cells KL.toArray 22)).alloc (.cells SL.toArray 78)).alloc (.cells Z 59)).alloc (.cells Z 59))
  rw [← hW]
  obtain ⟨gS, hgS⟩ : ∃ g, g = w.heap.size + 1 := ⟨_, rfl⟩
  rw [← hgS] at bS bR bO ⊢
  obtain ⟨gR, hgR⟩ : ∃ g, g = gS + 1 := ⟨_, rfl⟩
  rw [← hgR] at bR bO ⊢
  obtain ⟨gO, hgO⟩ : ∃ g, g = gR + 1 := ⟨_, rfl⟩
  rw [← hgO] at bO ⊢
  have HG := Lib.hid (show w.heap.size < gS ∧ gS < gR ∧ gR < gO by omega)
  clear hW hgS hgR hgO
  have KS := Lib.hid (show ∀ w', W.drew.grownBy w' (some gO) → (w'.rangeAt w.heap.size 0 KL ∧ w'.rangeAt gS 4 NL) from fun w' hb => by
    have hg := HG.out
    refine ⟨((show Blk W.drew w.heap.size _ _ from bK).grown hb (by intro h; injection h; omega)).range, fun j v hv => ?_⟩
    have h1 := ((show Blk W.drew gS _ _ from bS).grown hb (by intro h; injection h; omega)).range
    have h2 := h1 (4 + j) v (by rw [← HSN.out]; exact hv)
    simpa using h2)
  have R0 := Lib.hid (show W.drew.grownBy W.drew (some gO) from ⟨rfl, rfl, rfl, Nat.le_refl _, fun _ _ _ => rfl⟩)
  have BR := Lib.hid bR
  have BO := Lib.hid bO
  have BS := Lib.hid bS
  have BL := Lib.hid bL
  clear bK bS bR bO bL
  refine wp_region_held_drew (S := fun w' => w'.rangeAt w.heap.size 0 KL ∧ w'.rangeAt gS 4 NL) (by kernel_rfl) (KS.out _ R0.out) (fun hHeld => ?_)
  refine wpAnyH_take (i := 0) (oi := ⟨_, _, _, _, _, _⟩) rfl (by kernel_rfl) (by kernel_rfl) (by kernel_rfl) (fun _ _ _ h => h) (yields_slice (r := .slice (some ⟨gO, 0, none⟩) 5 5) (by rfl) 59 (.tmp 5) none none none rfl (fun w => slice_arr5z gO w)) hHeld ?_
  simp only [Act.put, List.setIfInBounds_toArray, List.set_cons_zero, List.set_cons_succ]
  refine wpAnyH_take (i := 1) (oi := ⟨_, _, _, _, _, _⟩) rfl (by kernel_rfl) (by kernel_rfl) (by kernel_rfl) (fun _ _ _ h => h) (yieldsIf_load_mid (by rfl) 22 (.tmp 2) rfl w.heap.size 0 rfl KL _ (fun w h => h.1) hu32 rfl hi32) hHeld ?_
  simp only [Act.put, List.setIfInBounds_toArray, List.set_cons_zero, List.set_cons_succ]
  refine wpAnyH_take (i := 2) (oi := ⟨_, _, _, _, _, _⟩) rfl (by kernel_rfl) (by kernel_rfl) (by kernel_rfl) (fun _ _ _ h => h) (yields_slice (r := .slice (some ⟨gS, 4, none⟩) 12 12) (by rfl) 78 (.tmp 3) (some (.const (.int .i64 4))) none none rfl (fun w => slice_arr16_4 gS w)) hHeld ?_
  simp only [Act.put, List.setIfInBounds_toArray, List.set_cons_zero, List.set_cons_succ]
  refine wpAnyH_take (i := 3) (oi := ⟨_, _, _, _, _, _⟩) rfl (by kernel_rfl) (by kernel_rfl) (by kernel_rfl) (fun _ _ _ h => h) (yields_arrayAt (r := .pointer (some ⟨gS, 4, none⟩)) (by rfl) 32 (.tmp 8) rfl (fun w => run_arrayAt (P := Tryd.prog) (w := w) 32 5 12 (some ⟨gS, 4, none⟩) 12 12 Tryd.underlying32 (Nat.le_refl _))) hHeld ?_
  simp only [Act.put, List.setIfInBounds_toArray, List.set_cons_zero, List.set_cons_succ]
  refine wpAnyH_take (i := 4) (oi := ⟨_, _, _, _, _, _⟩) rfl (by kernel_rfl) (by kernel_rfl) (by kernel_rfl) (fun _ _ _ h => h) (yieldsIf_load_mid (by rfl) 32 (.tmp 9) rfl gS 4 rfl NL _ (fun w h => h.2) hu12 rfl hi12) hHeld ?_
  simp only [Act.put, List.setIfInBounds_toArray, List.set_cons_zero, List.set_cons_succ]
  refine wpAnyH_take (i := 5) (oi := ⟨_, _, _, _, _, _⟩) rfl (by kernel_rfl) (by kernel_rfl) (by kernel_rfl) (fun _ _ _ h => h) (yields_slice (r := .slice (some ⟨gS, 0, none⟩) 16 16) (by rfl) 78 (.tmp 3) none none none rfl (fun w => slice_arr16z gS w)) hHeld ?_
  simp only [Act.put, List.setIfInBounds_toArray, List.set_cons_zero, List.set_cons_succ]
  refine wpAnyH_ready (rs := [6]) (by kernel_rfl) (by simp) ?_
  refine AllReadyH.cons rfl (fun K hK => ?_) AllReadyH.nil
  go_simp
  refine (CW.out gS W.drew BS.out).mono ?_
  rintro e w1 ⟨rfl, k, hk1⟩
  have R1 := Lib.hid (show W.drew.grownBy w1 (some gO) by rw [hk1]; exact grown_drewN R0.out k)
  have BO1 := Lib.hid (show Blk w1 gO 59 Z by rw [hk1]; exact BO.out)
  clear hk1
  refine hK.out _ _ (KS.out _ R1.out) (fun hHeld1 => ?_)
  clear hK K
  refine wpAnyH_ready (rs := [7]) (by kernel_rfl) (by simp) ?_
  refine AllReadyH.cons rfl (fun K hK => ?_) AllReadyH.nil
  go_simp
  refine (CX.out gO _ BO1.out).mono ?_
  rintro e w2 ⟨rfl, b2, g2⟩
  have g3 : W.drew.grownBy w2 (some gO) := only_trans R1.out g2
  refine hK.out _ _ (KS.out _ g3) (fun hHeld2 => ?_)
  clear hK K
  refine wpAnyH_done (by kernel_rfl) ?_ _
  have G3 := Lib.hid g3
  have B2 := Lib.hid b2
  have R2 := Lib.hid (show Blk w2 gR 59 Z from (show Blk W.drew gR _ _ from BR.out).grown g3 (by have := HG.out; intro h; injection h; omega))
  have BL2 := Lib.hid (show Below w.heap.size w w2 from grown_below BL.out.drew g3 (by have := BL.out.size; exact this) (by have := HG.out; omega))
  clear b2 g2 g3 hHeld hHeld1 hHeld2 KS CX CW
  go_wp2_with (first
    | refine wpList_load_row rfl 59 (.tmp 5) rfl gO rfl 59 OA (0, 0) _ B2.out Tryd.underlying59 rfl (by rw [SOA.out]; exact I5.out) ?_
    | refine wpList_store_row rfl 59 (.tmp 4) (.tmp 14) rfl gR OA rfl rfl 59 Z R2.out (by rw [SOA.out]; exact I5.out) (by rw [SOA.out, ZS.out]) AO.out ?_)
  refine bodyPost_ret (v := .agg OA) (results_cell_row rfl _ _ gR 59 _ (0, 0) _ rfl (Blk.row R2.out _) Tryd.underlying59 rfl (by rw [SOA.out]; exact I5.out)) rfl ⟨rfl, ?_⟩
  exact below_setRow BL2.out (by have := HG.out; omega) _
end Go.Proofs.YtjibbegdieiknaaDoor

/-
  The plain mathematics of the integers' encodings: no Go, no program.
-/
namespace Go.Proofs.YtjibbegdieiknaaDoor

def vsize (n : Int) : Int := if n < 64 then 1 else if n < 16384 then 2 else if n < 1073741824 then 4 else if n < 4611686018427387904 then 8 else 0
/-- How many bytes an encoding has whose first byte is b. -/
def vlen (b : Int) : Nat := if b < 64 then 1 else if b < 128 then 2 else if b < 192 then 4 else 8
/-- Bytes that are read on, behind acc. -/
def vfold (acc : Int) (l : List Int) : Int := l.foldl (fun a b => a * 256 + b) acc
/-- The length of the encoding at the beginning of l; 0: it is incomplete. -/
def rdS : List Int → Nat
  | [] => 0
  | b :: r => if (b :: r).length < vlen b then 0 else vlen b
/-- The number at the beginning of l. -/
def rdN : List Int → Int
  | [] => 0
  | b :: r => if (b :: r).length < vlen b then 0 else vfold (b % 64) (r.take (vlen b - 1))

theorem vlen_pow (x : Int) (h0 : 0 ≤ x) (h1 : x < 256) : RowKit.wrap64 (2 ^ (x / 64).toNat) = (vlen x : Int) := by
  unfold vlen
  rcases (show x < 64 ∨ 64 ≤ x ∧ x < 128 ∨ 128 ≤ x ∧ x < 192 ∨ 192 ≤ x by omega) with h | h | h | h
  · rw [if_pos h, show x / 64 = 0 by omega]; simp [RowKit.wrap64]
  · rw [if_neg (by omega), if_pos (by omega), show x / 64 = 1 by omega]; simp [RowKit.wrap64]
  · rw [if_neg (by omega), if_neg (by omega), if_pos (by omega), show x / 64 = 2 by omega]; simp [RowKit.wrap64]
  · rw [if_neg (by omega), if_neg (by omega), if_neg (by omega), show x / 64 = 3 by omega]; simp [RowKit.wrap64]
theorem vlen_bd (x : Int) : 1 ≤ vlen x ∧ vlen x ≤ 8 := by
  unfold vlen
  (repeat' split) <;> omega
theorem vfold_snoc (acc : Int) (l : List Int) (y : Int) : vfold acc (l ++ [y]) = vfold acc l * 256 + y := by simp [vfold]
theorem vfold_bd : ∀ (l : List Int) (acc M : Int), Bytes l → 0 ≤ acc → acc < M → 0 ≤ vfold acc l ∧ vfold acc l < M * 256 ^ l.length
  | [], acc, M, _, h0, h1 => by simp [vfold]; omega
  | x :: l, acc, M, hb, h0, h1 => by
    obtain ⟨a, b⟩ := hb x (by simp)
    have := vfold_bd l (acc * 256 + x) (M * 256) (fun y hy => hb y (by simp [hy])) (by omega) (by omega)
    have e : vfold acc (x :: l) = vfold (acc * 256 + x) l := rfl
    rw [e, List.length_cons, Int.pow_succ]
    refine ⟨this.1, ?_⟩
    have h2 := this.2
    rw [Int.mul_assoc, Int.mul_comm 256] at h2
    exact h2
/-- Less than seven bytes behind six bits: below 2^54. -/
theorem vfold_lt (l : List Int) (acc : Int) (hb : Bytes l) (h0 : 0 ≤ acc) (h1 : acc < 64) (hl : l.length ≤ 6) : 0 ≤ vfold acc l ∧ vfold acc l < 18014398509481984 := by
  have h := vfold_bd l acc 64 hb h0 h1
  refine ⟨h.1, Int.lt_of_lt_of_le h.2 ?_⟩
  rcases (show l.length = 0 ∨ l.length = 1 ∨ l.length = 2 ∨ l.length = 3 ∨ l.length = 4 ∨ l.length = 5 ∨ l.length = 6 by omega) with e | e | e | e | e | e | e <;> rw [e] <;> decide
theorem take_snoc' (l : List Int) (k : Nat) (h : k < l.length) : l.take (k + 1) = l.take k ++ [l.getD k 0] := by
  rw [List.take_succ_eq_append_getElem h]
  simp [List.getD, List.getElem?_eq_getElem h]
theorem or_join (a y : Int) (h0 : 0 ≤ a) (h1 : a < 18014398509481984) (hy0 : 0 ≤ y) (hy1 : y < 256) : bits .or .u64 (IntKind.u64.wrap (a * 256)) y = a * 256 + y := by
  rw [IntKind.wrap_u64, Int.emod_eq_of_lt (by omega) (by omega), u64_or _ _ (by omega) (by omega) (by omega) (by omega), nat_join 8 _ _ (by omega) (by omega)]
  omega
/-- The last k bytes of n, the greatest place first. -/
def be (n : Int) : Nat → List Int
  | 0 => []
  | k + 1 => n / 256 ^ k % 256 :: be n k
def vtag (s : Nat) : Int := if s = 1 then 0 else if s = 2 then 1 else if s = 4 then 2 else 3
/-- The encoding of n that has s bytes. -/
def wenc (n : Int) (s : Nat) : List Int := (n / 256 ^ (s - 1) % 256 + 64 * vtag s) :: be n (s - 1)
def IsSize (s : Int) (k : Nat) (b : Int) (t : Int) : Prop :=
  s = 1 ∧ k = 1 ∧ b = 64 ∧ t = 0 ∨ s = 2 ∧ k = 2 ∧ b = 16384 ∧ t = 1 ∨ s = 4 ∧ k = 4 ∧ b = 1073741824 ∧ t = 2 ∨ s = 8 ∧ k = 8 ∧ b = 4611686018427387904 ∧ t = 3
theorem be_length (n : Int) : ∀ k, (be n k).length = k
  | 0 => rfl
  | k + 1 => by simp [be, be_length n k]
theorem be_bytes (n : Int) : ∀ k, Bytes (be n k)
  | 0 => Bytes.nil
  | k + 1 => Bytes.cons (Int.emod_nonneg _ (by omega)) (Int.emod_lt_of_pos _ (by omega)) (be_bytes n k)
theorem be_step (n : Int) (s k : Nat) (h : k < s) : (List.replicate (s - k) (0 : Int) ++ be n k).set (s - 1 - k) (n / 256 ^ k % 256) = List.replicate (s - (k + 1)) 0 ++ be n (k + 1) := by
  obtain ⟨d, rfl⟩ : ∃ d, s = k + 1 + d := ⟨s - (k + 1), by omega⟩
  have e1 : k + 1 + d - k = d + 1 := by omega
  have e2 : k + 1 + d - 1 - k = d := by omega
  have e3 : k + 1 + d - (k + 1) = d := by omega
  rw [e1, e2, e3, List.replicate_succ', List.append_assoc, List.set_append_right _ _ (by simp)]
  simp [be]
theorem pow_shift (k : Nat) (n : Int) : n / 2 ^ (8 * k) = n / 256 ^ k := by rw [Int.pow_mul]; rfl
theorem be_zero (n : Int) (s k : Nat) (h : k < s) : (List.replicate (s - k) (0 : Int) ++ be n k)[s - 1 - k]? = some 0 := by
  rw [List.getElem?_append_left (by rw [List.length_replicate]; omega), List.getElem?_replicate, if_pos (by omega)]
theorem top_small {n b t : Int} {k m : Nat} (hs : IsSize k k b t) (hm : k = m + 1) (h0 : 0 ≤ n) (hn : n < b) : 0 ≤ n / 256 ^ m % 256 ∧ n / 256 ^ m % 256 < 64 := by
  unfold IsSize at hs
  rcases (show k = 1 ∧ b = 64 ∨ k = 2 ∧ b = 16384 ∨ k = 4 ∧ b = 1073741824 ∨ k = 8 ∧ b = 4611686018427387904 by omega) with ⟨h, rfl⟩ | ⟨h, rfl⟩ | ⟨h, rfl⟩ | ⟨h, rfl⟩
  · obtain rfl : m = 0 := by omega
    simp; omega
  · obtain rfl : m = 1 := by omega
    simp; omega
  · obtain rfl : m = 3 := by omega
    simp; omega
  · obtain rfl : m = 7 := by omega
    simp; omega
theorem vtag_of {b t : Int} {k : Nat} (hs : IsSize k k b t) : vtag k = t := by
  unfold IsSize at hs
  unfold vtag
  rcases (show k = 1 ∧ t = 0 ∨ k = 2 ∧ t = 1 ∨ k = 4 ∧ t = 2 ∨ k = 8 ∧ t = 3 by omega) with ⟨rfl, rfl⟩ | ⟨rfl, rfl⟩ | ⟨rfl, rfl⟩ | ⟨rfl, rfl⟩ <;> rfl
theorem or_tag (x t : Int) (h0 : 0 ≤ x) (h1 : x < 64) (t0 : 0 ≤ t) (t3 : t ≤ 3) : bits .or .u8 x (t * 64) = x + 64 * t := by
  rw [u8_or _ _ (by omega) (by omega) (by omega) (by omega), Nat.or_comm, nat_join 6 _ _ (by omega) (by omega)]
  omega
theorem wenc_length (n : Int) (k : Nat) (h : 1 ≤ k) : (wenc n k).length = k := by simp [wenc, be_length]; omega
theorem wenc_bytes {n b t : Int} {k : Nat} (hs : IsSize k k b t) (h0 : 0 ≤ n) (hn : n < b) : Bytes (wenc n k) := by
  have hk : 1 ≤ k := by unfold IsSize at hs; omega
  have h := top_small hs (show k = (k - 1) + 1 by omega) h0 hn
  have ht : 0 ≤ t ∧ t ≤ 3 := by unfold IsSize at hs; omega
  have hv := vtag_of hs
  exact Bytes.cons (by omega) (by omega) (be_bytes _ _)
theorem emod_step (n P : Int) (hP : 0 < P) : n % (P * 256) = n % P + P * (n / P % 256) := by
  have h1 := Int.mul_ediv_add_emod n P
  have h2 := Int.mul_ediv_add_emod (n / P) 256
  have h3 := Int.emod_nonneg n (show P ≠ 0 by omega)
  have h4 := Int.emod_lt_of_pos n hP
  have h5 := Int.emod_nonneg (n / P) (show (256 : Int) ≠ 0 by omega)
  have h6 := Int.emod_lt_of_pos (n / P) (show (0 : Int) < 256 by omega)
  have e : n = (n % P + P * (n / P % 256)) + P * 256 * (n / P / 256) := by
    have e1 : P * (n / P) = P * (256 * (n / P / 256)) + P * (n / P % 256) := by rw [← Int.mul_add, h2]
    rw [Int.mul_assoc]
    omega
  have hnn : 0 ≤ P * (n / P % 256) := Int.mul_nonneg (by omega) h5
  have hlt : P * (n / P % 256) ≤ P * 255 := Int.mul_le_mul_of_nonneg_left (by omega) (by omega)
  rw [e, Int.add_mul_emod_self_left]
  rw [← e]
  exact Int.emod_eq_of_lt (by omega) (by omega)
theorem vfold_be (n : Int) : ∀ (m : Nat) (a : Int), vfold a (be n m) = a * 256 ^ m + n % 256 ^ m
  | 0, a => by simp [be, vfold]
  | m + 1, a => by
    have e : vfold a (be n (m + 1)) = vfold (a * 256 + n / 256 ^ m % 256) (be n m) := rfl
    rw [e, vfold_be n m, Int.pow_succ, emod_step n _ (Int.pow_pos (by omega)), Int.add_mul, Int.mul_assoc, Int.mul_comm 256, Int.mul_comm (n / 256 ^ m % 256)]
    omega
theorem wenc_ne {n : Int} {k : Nat} (bh : List Int) : wenc n k ++ bh = (n / 256 ^ (k - 1) % 256 + 64 * vtag k) :: (be n (k - 1) ++ bh) := rfl
theorem wenc_vlen {n b t : Int} {k : Nat} (hs : IsSize k k b t) (h0 : 0 ≤ n) (hn : n < b) : vlen (n / 256 ^ (k - 1) % 256 + 64 * vtag k) = k := by
  have hk : 1 ≤ k := by unfold IsSize at hs; omega
  have h := top_small hs (show k = (k - 1) + 1 by omega) h0 hn
  rw [vtag_of hs]
  unfold IsSize at hs
  unfold vlen
  (repeat' split) <;> omega
/-- What stands at the beginning is read again, whatever stands behind. -/
theorem rdS_wenc {n b t : Int} {k : Nat} (hs : IsSize k k b t) (h0 : 0 ≤ n) (hn : n < b) (bh : List Int) : rdS (wenc n k ++ bh) = k := by
  have hk : 1 ≤ k := by unfold IsSize at hs; omega
  rw [wenc_ne]
  simp only [rdS]
  rw [wenc_vlen hs h0 hn, if_neg (by simp only [List.length_cons, List.length_append, be_length]; omega)]
theorem rdN_wenc {n b t : Int} {k : Nat} (hs : IsSize k k b t) (h0 : 0 ≤ n) (hn : n < b) (bh : List Int) : rdN (wenc n k ++ bh) = n := by
  have hk : 1 ≤ k := by unfold IsSize at hs; omega
  have h := top_small hs (show k = (k - 1) + 1 by omega) h0 hn
  have ht : 0 ≤ t ∧ t ≤ 3 := by unfold IsSize at hs; omega
  rw [wenc_ne]
  simp only [rdN]
  rw [wenc_vlen hs h0 hn, if_neg (by simp only [List.length_cons, List.length_append, be_length]; omega), List.take_append_of_le_length (by rw [be_length]; omega), List.take_of_length_le (by rw [be_length]; omega), vfold_be, vtag_of hs]
  have e1 : (n / 256 ^ (k - 1) % 256 + 64 * t) % 64 = n / 256 ^ (k - 1) % 256 := by omega
  have hP : (0 : Int) < 256 ^ (k - 1) := Int.pow_pos (by omega)
  have e2 : n / 256 ^ (k - 1) % 256 = n / 256 ^ (k - 1) := by
    refine Int.emod_eq_of_lt (Int.ediv_nonneg h0 (by omega)) ?_
    refine Int.ediv_lt_of_lt_mul hP ?_
    unfold IsSize at hs
    rcases (show k = 1 ∧ b = 64 ∨ k = 2 ∧ b = 16384 ∨ k = 4 ∧ b = 1073741824 ∨ k = 8 ∧ b = 4611686018427387904 by omega) with ⟨rfl, rfl⟩ | ⟨rfl, rfl⟩ | ⟨rfl, rfl⟩ | ⟨rfl, rfl⟩ <;> simp <;> omega
  rw [e1, e2, Int.mul_comm]
  exact Int.mul_ediv_add_emod n _
theorem drop_wenc {n b t : Int} {k : Nat} (hs : IsSize k k b t) (bh : List Int) : (wenc n k ++ bh).drop k = bh := by
  have hk : 1 ≤ k := by unfold IsSize at hs; omega
  rw [List.drop_append_of_le_length (by rw [wenc_length n k hk]; omega), List.drop_of_length_le (by rw [wenc_length n k hk]; omega), List.nil_append]
end Go.Proofs.YtjibbegdieiknaaDoor

namespace Go.Proofs.YtjibbegdieiknaaDoor
open Go.RowKit
set_option linter.unusedVariables false

set_option maxHeartbeats 400000 in
theorem bound_any (s b : Int) (w : World) (hs : s = 1 ∧ b = 64 ∨ s = 2 ∧ b = 16384 ∨ s = 4 ∧ b = 1073741824 ∨ s = 8 ∧ b = 4611686018427387904) :
    Calls Tryd.prog 71 #[.int .i64 s] w fun e w' => e = .returned (.int .u64 b) ∧ w = w' := by
  rcases hs with ⟨rfl, rfl⟩ | ⟨rfl, rfl⟩ | ⟨rfl, rfl⟩ | ⟨rfl, rfl⟩
  all_goals
    go_enter Tryd.func71, Tryd.ntmps71
    go_wp2
    go_ret
    exact ⟨rfl, rfl⟩



end Go.Proofs.YtjibbegdieiknaaDoor

namespace Go.Proofs.YtjibbegdieiknaaDoor
open Go.RowKit
set_option linter.unusedVariables false

set_option maxHeartbeats 400000 in
theorem read_any (A : Option Addr) (c : Nat) (l : List Int) (w : World) (hr : Rd w A l) (hb : Bytes l) (hc : l.length ≤ c) (hl : l.length ≤ 70368744177664) :
    Calls Tryd.prog 103 #[.slice A l.length c] w fun e w' => e = .returned (.tuple #[.int .u64 (rdN l), .int .i64 (rdS l)]) ∧ w = w' := by
  match l, hr, hb, hc, hl with
  | [], hr, hb, hc, hl =>
    go_enter Tryd.func103, Tryd.ntmps103
    go_wp2
    go_ret2
    exact ⟨rfl, rfl⟩
  | x :: r, hr, hb, hc, hl =>
    obtain ⟨b, off, rfl, hbw⟩ := hr.some_ (by simp)
    have h0 := hr.cell (j := 0) (x := x) rfl
    obtain ⟨n, hn⟩ : ∃ n, n = (x :: r).length := ⟨_, rfl⟩
    obtain ⟨hx0, hx1⟩ := hb x (by simp)
    simp only [Nat.add_zero] at h0
    have h1 : 0 < n := by rw [hn]; simp
    rw [← hn]
    have HN := Lib.hid hn
    rw [← hn] at hc hl
    clear hn
    have hs := vlen_pow x hx0 hx1
    have hn0 : ((n : Int) == 0) = false := by simp; omega
    obtain ⟨s, hsv⟩ : ∃ s, s = vlen x := ⟨_, rfl⟩
    rw [← hsv] at hs
    have HSV := Lib.hid hsv
    obtain ⟨hs1, hs8⟩ := vlen_bd x
    rw [← hsv] at hs1 hs8
    have HR := Lib.hid hr
    have HB := Lib.hid hb
    clear hsv hr hb
    by_cases hlt : n < s
    · have e1 : rdN (x :: r) = 0 := by simp only [rdN]; rw [if_pos (by rw [← HN.out, ← HSV.out]; exact hlt)]
      have e2 : rdS (x :: r) = 0 := by simp only [rdS]; rw [if_pos (by rw [← HN.out, ← HSV.out]; exact hlt)]
      rw [e1, e2]
      clear e1 e2
      go_enter Tryd.func103, Tryd.ntmps103
      go_wp2
      go_ret2
      exact ⟨rfl, rfl⟩
    · have e1 : rdN (x :: r) = vfold (x % 64) (r.take (s - 1)) := by simp only [rdN]; rw [if_neg (by rw [← HN.out, ← HSV.out]; exact hlt), HSV.out]
      have e2 : rdS (x :: r) = s := by simp only [rdS]; rw [if_neg (by rw [← HN.out, ← HSV.out]; exact hlt), HSV.out]
      rw [e1, e2]
      clear e1 e2
      have hg : ∀ k, k < s - 1 → w.cell? ⟨b, off + 1 + k, none⟩ = some (.int .u8 (r.getD k 0)) := by
        intro k hk
        have hln := HN.out
        simp only [List.length_cons] at hln
        have hkr : k < r.length := by omega
        have := HR.out.cell (j := k + 1) (x := r[k]) (by simp [List.getElem?_eq_getElem hkr])
        rw [show off + 1 + k = off + (k + 1) by omega, this]
        simp [List.getD, List.getElem?_eq_getElem hkr]
      have hrb : ∀ k, k < s - 1 → 0 ≤ r.getD k 0 ∧ r.getD k 0 < 256 := by
        intro k hk
        have hln := HN.out
        simp only [List.length_cons] at hln
        have hkr : k < r.length := by omega
        simp only [List.getD, List.getElem?_eq_getElem hkr, Option.getD_some]
        exact HB.out _ (by simp)
      have hvb : ∀ k, k ≤ s - 1 → k ≤ 6 → 0 ≤ vfold (x % 64) (r.take k) ∧ vfold (x % 64) (r.take k) < 18014398509481984 := by
        intro k hk hk6
        exact vfold_lt _ _ (Bytes.take (fun y hy => HB.out y (by simp [hy])) k) (by omega) (by omega) (by simp; omega)
      have hvs : ∀ k, k < s - 1 → vfold (x % 64) (r.take (k + 1)) = vfold (x % 64) (r.take k) * 256 + r.getD k 0 := by
        intro k hk
        have hln := HN.out
        simp only [List.length_cons] at hln
        rw [take_snoc' r k (by omega), vfold_snoc]
      have HG := Lib.hid hg
      have HRB := Lib.hid hrb
      have HVB := Lib.hid hvb
      have HVS := Lib.hid hvs
      clear hg hrb hvb hvs
      go_enter Tryd.func103, Tryd.ntmps103
      go_wp2
      all_goals
        go_loop [5, 29] (fun v i => ∃ k : Nat, k ≤ s - 1 ∧ i = .int .i64 k ∧ v = .int .u64 (vfold (x % 64) (r.take k))) (fun _ i => s - (intOf i).toNat)
        case atStart => exact ⟨0, by omega, rfl, rfl⟩
        case round =>
          obtain ⟨k, hk, rfl, rfl⟩ := hrel
          by_cases hks : k < s - 1
          · have hg := HG.out k hks
            obtain ⟨y, hy⟩ : ∃ y, y = r.getD k 0 := ⟨_, rfl⟩
            rw [← hy] at hg
            obtain ⟨hy0, hy1⟩ := HRB.out k hks
            rw [← hy] at hy0 hy1
            have HY := Lib.hid hy
            clear hy
            go_wp2
            all_goals first
              | omega
              | (go_round
                 case rel =>
                   obtain ⟨hv0, hv1⟩ := HVB.out k (by omega) (by omega)
                   exact ⟨k + 1, by omega, by go_num, by rw [or_join _ _ hv0 hv1 hy0 hy1, HVS.out k hks, HY.out]⟩
                 case measure => simp [intOf]; omega)
          · obtain rfl : k = s - 1 := by omega
            go_wp2
            go_ret2
            exact ⟨rfl, rfl⟩
end Go.Proofs.YtjibbegdieiknaaDoor

namespace Go.Proofs.YtjibbegdieiknaaDoor
open Go.RowKit
set_option linter.unusedVariables false

/-- What the encoder reads of the library's table. -/
def Tab (w : World) : Prop := 2 < w.heap.size ∧
  w.cell? ⟨2, 0, none⟩ = some (.int .u8 0) ∧ w.cell? ⟨2, 1, none⟩ = some (.int .u8 1) ∧
  w.cell? ⟨2, 3, none⟩ = some (.int .u8 2) ∧ w.cell? ⟨2, 7, none⟩ = some (.int .u8 3)
theorem Tab.below {w w' : World} (h : Tab w) (hb : Below w.heap.size w w') : Tab w' := by
  obtain ⟨h1, h2, h3, h4, h5⟩ := h
  have e : ∀ o, w'.cell? ⟨2, o, none⟩ = w.cell? ⟨2, o, none⟩ := fun o => hb.cell (p := ⟨_, o, none⟩) h1
  exact ⟨Nat.lt_of_lt_of_le h1 hb.size, by rw [e]; exact h2, by rw [e]; exact h3, by rw [e]; exact h4, by rw [e]; exact h5⟩

set_option maxHeartbeats 400000 in
theorem tz_any (s t : Int) (w : World) (ht : Tab w) (hs : s = 1 ∧ t = 0 ∨ s = 2 ∧ t = 1 ∨ s = 4 ∧ t = 2 ∨ s = 8 ∧ t = 3) :
    Calls Tryd.prog 85 #[.int .u64 s] w fun e w' => e = .returned (.int .i64 t) ∧ w = w' := by
  obtain ⟨_, h1, h2, h3, h4⟩ := ht
  have e1 : IntKind.u64.wrap (bits BinOp.and IntKind.u64 1 (IntKind.u64.wrap (-1)) * 285870213051353865) / 288230376151711744 = 0 := by kernel_rfl
  have e2 : IntKind.u64.wrap (bits BinOp.and IntKind.u64 2 (IntKind.u64.wrap (-2)) * 285870213051353865) / 288230376151711744 = 1 := by kernel_rfl
  have e3 : IntKind.u64.wrap (bits BinOp.and IntKind.u64 4 (IntKind.u64.wrap (-4)) * 285870213051353865) / 288230376151711744 = 3 := by kernel_rfl
  have e4 : IntKind.u64.wrap (bits BinOp.and IntKind.u64 8 (IntKind.u64.wrap (-8)) * 285870213051353865) / 288230376151711744 = 7 := by kernel_rfl
  rcases hs with ⟨rfl, rfl⟩ | ⟨rfl, rfl⟩ | ⟨rfl, rfl⟩ | ⟨rfl, rfl⟩
  all_goals
    go_enter Tryd.func85, Tryd.ntmps85
    go_wp2
    go_ret
    exact ⟨rfl, rfl⟩

set_option maxHeartbeats 400000 in
theorem tzs_any (s t : Int) (w : World) (ht : Tab w) (hs : s = 1 ∧ t = 0 ∨ s = 2 ∧ t = 1 ∨ s = 4 ∧ t = 2 ∨ s = 8 ∧ t = 3) :
    Calls Tryd.prog 72 #[.int .u64 s] w fun e w' => e = .returned (.int .i64 t) ∧ w = w' := by
  have h0 : 0 ≤ s := by omega
  have h8 : s ≤ 8 := by omega
  have H := Lib.hid hs
  clear hs
  go_enter Tryd.func72, Tryd.ntmps72
  go_wp2_with (go_at_call 85; go_must (refine (tz_any s t _ ht H.out).mono ?_); rintro e w' ⟨rfl, rfl⟩)
  go_ret
  exact ⟨rfl, rfl⟩

theorem rdS_le (l : List Int) : rdS l ≤ l.length := by
  match l with
  | [] => simp [rdS]
  | x :: r => simp only [rdS]; split <;> omega

set_option maxHeartbeats 400000 in
theorem take_no (A : Option Addr) (c : Nat) (l : List Int) (w : World) (hr : Rd w A l) (hb : Bytes l) (hc : l.length ≤ c) (hl : l.length ≤ 70368744177664) (h0 : rdS l = 0) :
    Calls Tryd.prog 101 #[.slice A l.length c] w fun e w' => e = .returned (.tuple #[.int .u64 0, .slice none 0 0, .int .i64 2]) ∧ w = w' := by
  have HS := Lib.hid h0
  clear h0
  go_enter Tryd.func101, Tryd.ntmps101
  go_wp2_with fail
  refine (read_any _ _ _ _ hr hb hc hl).mono ?_
  rintro e w' ⟨rfl, rfl⟩
  rw [HS.out]
  go_wp2
  go_ret3
  exact ⟨rfl, rfl⟩

set_option maxHeartbeats 400000 in
theorem take_yes (A : Option Addr) (c : Nat) (l : List Int) (w : World) (hr : Rd w A l) (hb : Bytes l) (hc : l.length ≤ c) (hl : l.length ≤ 70368744177664) (h0 : rdS l ≠ 0) :
    Calls Tryd.prog 101 #[.slice A l.length c] w fun e w' =>
      ∃ A' c', e = .returned (.tuple #[.int .u64 (rdN l), .slice A' (l.drop (rdS l)).length c', .int .i64 0]) ∧ Own w' w.heap.size A' c' (l.drop (rdS l)) ∧ Below w.heap.size w w' := by
  obtain ⟨n, hn⟩ : ∃ n, n = rdN l := ⟨_, rfl⟩
  obtain ⟨s, hs⟩ : ∃ s, s = rdS l := ⟨_, rfl⟩
  have hsl : s ≤ l.length := by rw [hs]; exact rdS_le l
  have hA : ∃ b off, A = some ⟨b, off, none⟩ := by
    obtain ⟨b, off, h, _⟩ := hr.some_ (by rw [← hs] at h0; omega)
    exact ⟨b, off, h⟩
  obtain ⟨b, off, rfl⟩ := hA
  rw [← hn, ← hs]
  rw [← hs] at h0
  have HN := Lib.hid hn
  have HS := Lib.hid hs
  clear hn hs
  have hz : ((s : Int) == 0) = false := by simp; omega
  obtain ⟨A', hsl1, hsl2, hsl3⟩ := slice_from (some ⟨b, off, none⟩) c l s .i64 hsl hc
  obtain ⟨m, hm⟩ : ∃ m, m = l.drop s := ⟨_, rfl⟩
  have hml : m.length ≤ 70368744177664 := by rw [hm]; simp; omega
  rw [← hm] at hsl1 hsl2 ⊢
  have hr2 := hsl2 _ hr
  have hA' : A' ≠ none := fun h => by cases hsl3 h
  have HM := Lib.hid hm
  clear hm hsl2 hsl3
  go_enter Tryd.func101, Tryd.ntmps101
  go_wp2_with fail
  refine (read_any _ _ _ _ hr hb hc hl).mono ?_
  rintro e w' ⟨rfl, rfl⟩
  rw [← HN.out, ← HS.out]
  clear hr hb
  go_wp2_with (go_at_call 33; go_must (refine (clone_any A' (c - s) m _ hr2 hml (fun h => absurd h hA')).mono ?_); rintro e w' ⟨A2, c2, rfl, hown, hbel⟩)
  go_ret3
  exact ⟨A2, c2, rfl, hown, hbel⟩
end Go.Proofs.YtjibbegdieiknaaDoor
