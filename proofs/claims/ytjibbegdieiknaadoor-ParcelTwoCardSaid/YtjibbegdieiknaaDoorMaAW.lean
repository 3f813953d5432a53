/-
  Open of what Close made.
-/
import Derived.Test.YtjibbegdieiknaaDoorMaAU
import Derived.Test.YtjibbegdieiknaaDoorMaAH
import Derived.Test.YtjibbegdieiknaaDoorMaAB
import Derived.Deep.RegionLaw
namespace Go.Proofs.YtjibbegdieiknaaDoor
set_option maxRecDepth 100000
open Go.RowKit
set_option linter.unusedVariables false
set_option linter.unusedSimpArgs false

set_option maxHeartbeats 3200000 in
theorem Open_ok (key nonce p beside plain : List Int) (n : Nat) (A B : Option Addr) (c d : Nat) (w : World) (hk : key.length = 32) (hkb : Bytes key) (hnl : nonce.length = 12) (hnb : Bytes nonce)
    (hp : Rd w A p) (hpb : Bytes p) (hpc : p.length ≤ c) (hcm : c ≤ 9223372036854775807) (hb : Rd w B beside) (hbb : Bytes beside) (hdd : beside.length ≤ d) (hdm : d ≤ 9223372036854775807) (hn : p.length = n + 16)
    (heq : sealT key nonce (p.take n) beside = p.drop n) (hx : xorb (p.take n) (stream key nonce 1 n) = plain) (hnl2 : n ≤ 1000000) :
    Calls Tryd.prog 31 #[.agg (IV .u8 key).toArray, .agg (IV .u8 nonce).toArray, .slice A p.length c, .slice B beside.length d] w fun e w' =>
      ∃ A' c', e = .returned (.tuple #[.slice A' plain.length c', .int .i64 0]) ∧ Own w' w.heap.size A' c' plain ∧ Below w.heap.size w w' := by
  have hn1 : (p.length : Int) - 16 = (n : Int) := by omega
  have HNN := Lib.hid hn
  obtain ⟨A1, hS1, hR1, _⟩ := slice_upto A c p n .i64 (by omega) hpc
  obtain ⟨A2, hS2, hR2, _⟩ := slice_from A c p n .i64 (by omega) hpc
  have ht : (p.take n).length = n := by simp; omega
  have hd : (p.drop n).length = 16 := by simp; omega
  rw [ht, ← hn1] at hS1
  rw [hd, ← hn1] at hS2
  have CS := Lib.hid (fun W (hr : Rd W A1 (p.take n)) (hb : Rd W B beside) => sealTag_any key nonce (p.take n) beside A1 B c d W hk hkb hnl hnb hr (hpb.take n) (by omega) hcm hb hbb hdd hdm)
  rw [ht] at CS
  obtain ⟨T, hT⟩ : ∃ T, T = sealT key nonce (p.take n) beside := ⟨_, rfl⟩
  have hTl : T.length = 16 := by rw [hT, sealT_length]
  have hTb : Bytes T := by rw [hT]; exact sealT_bytes _ _ _ _
  rw [← hT] at CS heq
  have CE := same_arr T (p.drop n)
  have CE' := Lib.hid (fun W => CE W hTl hd hTb (hpb.drop n))
  rw [decide_eq_true heq] at CE'
  clear CE
  obtain ⟨D, hD⟩ : ∃ D, D = p.drop n := ⟨_, rfl⟩
  rw [← hD] at CE'
  obtain ⟨KL, hKL⟩ : ∃ KL, KL = IV .u8 key := ⟨_, rfl⟩
  obtain ⟨NL, hNL⟩ : ∃ NL, NL = IV .u8 nonce := ⟨_, rfl⟩
  obtain ⟨DL, hDL⟩ : ∃ DL, DL = IV .u8 D := ⟨_, rfl⟩
  rw [← hKL, ← hNL] at CS ⊢
  rw [← hDL] at CE'
  have SK := (show KL.length = 32 by rw [hKL]; simp [IV, hk])
  have SN := (show NL.length = 12 by rw [hNL]; simp [IV, hnl])
  have SD := (show DL.length = 16 by rw [hDL, hD, IV_length]; exact hd)
  have I32 := Lib.hid (show (Tryd.prog.info? 22).map (·.size) = some 32 by kernel_rfl)
  have I12 := Lib.hid (show (Tryd.prog.info? 32).map (·.size) = some 12 by kernel_rfl)
  have I16 := Lib.hid (show (Tryd.prog.info? 78).map (·.size) = some 16 by kernel_rfl)
  have RA := Lib.hid (hR1 w hp)
  have RB := Lib.hid hb
  have RD := Lib.hid (show Rd w A2 D by rw [hD]; exact hR2 w hp)
  have HDl := Lib.hid (show D.length = 16 by rw [hD]; exact hd)
  have hp16 : (16 : Int) ≤ p.length := by omega
  obtain ⟨bD, oD, hA2, hbD⟩ := RD.out.some_ (by rw [HDl.out]; omega)
  have SDR := Lib.hid (show w.rangeAt bD oD DL by
    have h := RD.out
    rw [hA2] at h
    intro j v hv
    rw [hDL] at hv
    obtain ⟨x, hx, rfl⟩ : ∃ x, D[j]? = some x ∧ .int .u8 x = v := by simpa [IV] using hv
    exact h.cell hx)
  have hArr : ∀ W : World, (Instr.arrayAt 78 (.slice A2 16 (c - n))).run Tryd.prog W = .ok (.pointer (some ⟨bD, oD, none⟩)) W := fun W => by
    have h := run_arrayAt (P := Tryd.prog) (w := W) 78 5 16 A2 16 (c - n) Tryd.underlying78 (Nat.le_refl _)
    rw [hA2] at h ⊢
    exact h
  have HBD := Lib.hid hbD
  obtain ⟨E, hE⟩ : ∃ E, E = p.take n := ⟨_, rfl⟩
  have hEb : Bytes E := by rw [hE]; exact hpb.take n
  have hEl : E.length = n := by rw [hE]; exact ht
  rw [← hE] at hx
  have CX := Lib.hid (fun (g : Nat) W (hb : Blk W g 5 (IV .u8 (E ++ [])).toArray) => xor_any g 5 E [] n key nonce 1 W hb hEb (by omega) (by omega) hk hkb hnl hnb (by unfold W32; omega))
  rw [hEl, hx, List.append_nil, List.append_nil, ← hKL, ← hNL] at CX
  have RPT := Lib.hid (show Rd w A E by rw [hE]; exact hp.upto (by omega))
  have HPL := Lib.hid (show plain.length = n by rw [← hx, xorb_length (by rw [stream_length]; omega), hEl])
  have HEL := Lib.hid hEl
  have HMN := Lib.hid (show Nat.min p.length n = n from Nat.min_eq_right (by omega))
  have hmk := fun W => mk_z n n ((p.length : Int) - 16) ((p.length : Int) - 16) hn1 hn1 (Nat.le_refl _) (by omega) W
  clear hn hn1 hKL hNL hDL hA2 hbD hk hkb hnl hnb hT hTl hTb hD hp hb hpb hbb heq hx hE hEb hEl ht hd hR1 hR2
  go_enter Tryd.func31, Tryd.ntmps31
  go_wp2_with fail
  obtain ⟨W, hW⟩ : ∃ W, W = (w.alloc (.cells KL.toArray 22)).alloc (.cells NL.toArray 32) := ⟨_, rfl⟩
  have bK : Blk W w.heap.size 22 KL.toArray := by rw [hW]; exact (Blk.new w _ _).alloc _
  have bN : Blk W (w.heap.size + 1) 32 NL.toArray := by rw [hW]; exact blk_second w _ _ _
  have bL : Below w.heap.size w W := by rw [hW]; exact ((Below.refl _ _).alloc (Nat.le_refl _) _).alloc (by simp) _
  show Code.wp _ _ _ _ ((w.alloc (.cells KL.toArray 22)).alloc (.cells NL.toArray 32))
  rw [← hW]
  obtain ⟨gN, hgN⟩ : ∃ g, g = w.heap.size + 1 := ⟨_, rfl⟩
  rw [← hgN] at bN ⊢
  have HGN := Lib.hid hgN
  clear hW hgN
  have KS := Lib.hid (show ∀ w', Below W.heap.size W.drew w' → (w'.rangeAt w.heap.size 0 KL ∧ w'.rangeAt gN 0 NL ∧ w'.rangeAt bD oD DL) from fun w' hb => by
    refine ⟨((show Blk W.drew w.heap.size _ _ from bK).below hb bK.lt).range, ((show Blk W.drew gN _ _ from bN).below hb bN.lt).range, fun j v hv => ?_⟩
    have h1 := SDR.out j v hv
    have e1 : W.drew.cell? ⟨bD, oD + j, none⟩ = w.cell? ⟨bD, oD + j, none⟩ := bL.drew.cell (p := ⟨bD, oD + j, none⟩) HBD.out
    have e2 : w'.cell? ⟨bD, oD + j, none⟩ = W.drew.cell? ⟨bD, oD + j, none⟩ := hb.cell (p := ⟨bD, oD + j, none⟩) (by have h1 := HBD.out; have h2 := bL.size; show bD < W.heap.size; omega)
    rw [e2, e1, h1])
  have CT := Lib.hid (CS.out W.drew (RA.out.below bL.drew) (RB.out.below bL.drew))
  have BLW := Lib.hid bL
  have BKW := Lib.hid bK
  have BNW := Lib.hid bN
  have hu32 := Tryd.underlying22
  have hu12 := Tryd.underlying32
  have hu16 := Tryd.underlying78
  have hi32 : (Tryd.prog.info? 22).map (·.size) = some KL.length := by rw [SK]; exact I32.out
  have hi12 : (Tryd.prog.info? 32).map (·.size) = some NL.length := by rw [SN]; exact I12.out
  have hi16 : (Tryd.prog.info? 78).map (·.size) = some DL.length := by rw [SD]; exact I16.out
  clear bK bN bL CS SDR
  refine wp_region_held_drew (S := fun w' => w'.rangeAt w.heap.size 0 KL ∧ w'.rangeAt gN 0 NL ∧ w'.rangeAt bD oD DL) (by kernel_rfl) (KS.out _ (Below.refl _ _)) (fun hHeld => ?_)
  refine wpAnyH_take (i := 0) (oi := { dst := some 18, op := .load 22 (.tmp 4), type := 22, pos := "salt.go:43", after := #[], guard := none }) rfl (by kernel_rfl) (by kernel_rfl) (by kernel_rfl) (fun _ _ _ h => h) (yieldsIf_load_mid (by rfl) 22 (.tmp 4) rfl w.heap.size 0 rfl KL _ (fun w h => h.1) hu32 rfl hi32) hHeld ?_
  simp only [Act.put, List.setIfInBounds_toArray, List.set_cons_zero, List.set_cons_succ]
  refine wpAnyH_take (i := 1) (oi := { dst := some 19, op := .load 32 (.tmp 5), type := 32, pos := "salt.go:43", after := #[], guard := none }) rfl (by kernel_rfl) (by kernel_rfl) (by kernel_rfl) (fun _ _ _ h => h) (yieldsIf_load_mid (by rfl) 32 (.tmp 5) rfl gN 0 rfl NL _ (fun w h => h.2.1) hu12 rfl hi12) hHeld ?_
  simp only [Act.put, List.setIfInBounds_toArray, List.set_cons_zero, List.set_cons_succ]
  refine wpAnyH_take (i := 2) (oi := { dst := some 20, op := .move (.tmp 2), type := 23, pos := "salt.go:43", after := #[], guard := none }) (v := .slice A p.length c) rfl (by kernel_rfl) (by kernel_rfl) (by kernel_rfl) (fun _ _ _ h => h) (Or.inl ⟨by rfl, fun w _ => rfl⟩) hHeld ?_
  simp only [Act.put, List.setIfInBounds_toArray, List.set_cons_zero, List.set_cons_succ]
  refine wpAnyH_take (i := 3) (oi := { dst := some 21, op := .move (.tmp 10), type := 3, pos := "salt.go:43", after := #[], guard := none }) (v := .int .i64 ((p.length : Int) - 16)) rfl (by kernel_rfl) (by kernel_rfl) (by kernel_rfl) (fun _ _ _ h => h) (Or.inl ⟨by rfl, fun w _ => rfl⟩) hHeld ?_
  simp only [Act.put, List.setIfInBounds_toArray, List.set_cons_zero, List.set_cons_succ]
  refine wpAnyH_take (i := 4) (oi := { dst := some 22, op := .slice 23 (.tmp 20) none (some (.tmp 21)) none, type := 23, pos := "salt.go:43", after := #[{ on := 2, ground := .data }, { on := 3, ground := .data }], guard := none }) (v := .slice A1 n c) rfl (by kernel_rfl) (by kernel_rfl) (by kernel_rfl) (fun _ _ _ h => h) (yields_slice (by rfl) 23 (.tmp 20) none (some (.tmp 21)) none rfl (fun w => hS1 w)) hHeld ?_
  simp only [Act.put, List.setIfInBounds_toArray, List.set_cons_zero, List.set_cons_succ]
  refine wpAnyH_take (i := 5) (oi := { dst := some 23, op := .move (.tmp 3), type := 23, pos := "salt.go:43", after := #[], guard := none }) (v := .slice B beside.length d) rfl (by kernel_rfl) (by kernel_rfl) (by kernel_rfl) (fun _ _ _ h => h) (Or.inl ⟨by rfl, fun w _ => rfl⟩) hHeld ?_
  simp only [Act.put, List.setIfInBounds_toArray, List.set_cons_zero, List.set_cons_succ]
  refine wpAnyH_take (i := 7) (oi := { dst := some 25, op := .move (.tmp 2), type := 23, pos := "salt.go:43", after := #[], guard := none }) (v := .slice A p.length c) rfl (by kernel_rfl) (by kernel_rfl) (by kernel_rfl) (fun _ _ _ h => h) (Or.inl ⟨by rfl, fun w _ => rfl⟩) hHeld ?_
  simp only [Act.put, List.setIfInBounds_toArray, List.set_cons_zero, List.set_cons_succ]
  refine wpAnyH_take (i := 8) (oi := { dst := some 26, op := .move (.tmp 10), type := 3, pos := "salt.go:43", after := #[], guard := none }) (v := .int .i64 ((p.length : Int) - 16)) rfl (by kernel_rfl) (by kernel_rfl) (by kernel_rfl) (fun _ _ _ h => h) (Or.inl ⟨by rfl, fun w _ => rfl⟩) hHeld ?_
  simp only [Act.put, List.setIfInBounds_toArray, List.set_cons_zero, List.set_cons_succ]
  refine wpAnyH_take (i := 9) (oi := { dst := some 27, op := .slice 23 (.tmp 25) (some (.tmp 26)) none none, type := 23, pos := "salt.go:43", after := #[{ on := 7, ground := .data }, { on := 8, ground := .data }], guard := none }) (v := .slice A2 16 (c - n)) rfl (by kernel_rfl) (by kernel_rfl) (by kernel_rfl) (fun _ _ _ h => h) (yields_slice (by rfl) 23 (.tmp 25) (some (.tmp 26)) none none rfl (fun w => hS2 w)) hHeld ?_
  simp only [Act.put, List.setIfInBounds_toArray, List.set_cons_zero, List.set_cons_succ]
  refine wpAnyH_take (i := 10) (oi := { dst := some 28, op := .sliceToArrayPointer 78 (.tmp 27), type := 0, pos := "salt.go:43", after := #[{ on := 9, ground := .data }], guard := none }) (v := .pointer (some ⟨bD, oD, none⟩)) rfl (by kernel_rfl) (by kernel_rfl) (by kernel_rfl) (fun _ _ _ h => h) (yields_arrayAt (by rfl) 78 (.tmp 27) rfl (fun w => hArr w)) hHeld ?_
  simp only [Act.put, List.setIfInBounds_toArray, List.set_cons_zero, List.set_cons_succ]
  refine wpAnyH_take (i := 11) (oi := { dst := some 29, op := .load 78 (.tmp 28), type := 78, pos := "salt.go:43", after := #[{ on := 10, ground := .data }], guard := none }) rfl (by kernel_rfl) (by kernel_rfl) (by kernel_rfl) (fun _ _ _ h => h) (yieldsIf_load_mid (by rfl) 78 (.tmp 28) rfl bD oD rfl DL _ (fun w h => h.2.2) hu16 rfl hi16) hHeld ?_
  simp only [Act.put, List.setIfInBounds_toArray, List.set_cons_zero, List.set_cons_succ]
  refine wpAnyH_ready (rs := [6]) (by kernel_rfl) (by simp) ?_
  refine AllReadyH.cons rfl (fun K hK => ?_) AllReadyH.nil
  go_simp
  refine CT.out.mono ?_
  rintro e w5 ⟨rfl, b5⟩
  refine hK.out _ _ (KS.out _ b5) (fun hHeld5 => ?_)
  clear hK K
  refine wpAnyH_ready (rs := [12]) (by kernel_rfl) (by simp) ?_
  refine AllReadyH.cons rfl (fun K hK => ?_) AllReadyH.nil
  go_simp
  refine (CE'.out w5).mono ?_
  rintro e w6 ⟨rfl, b6'⟩
  have b6 : Below W.heap.size W.drew w6 := b5.trans (b6'.mono b5.size)
  refine hK.out _ _ (KS.out _ b6) (fun hHeld6 => ?_)
  clear hK K
  refine wpAnyH_take (i := 13) (oi := { dst := some 31, op := .unOp .not 4 (.tmp 30), type := 4, pos := "salt.go:43", after := #[{ on := 12, ground := .data }], guard := none }) (v := .bool false) rfl (by kernel_rfl) (by kernel_rfl) (by kernel_rfl) (fun _ _ _ h => h) (Or.inl ⟨by rfl, fun w _ => by go_simp⟩) hHeld6 ?_
  simp only [Act.put, List.setIfInBounds_toArray, List.set_cons_zero, List.set_cons_succ]
  refine wpAnyH_done (by kernel_rfl) ?_ _
  have BL6 := Lib.hid (BLW.out.drew.trans (b6.mono BLW.out.size))
  have BK6 := Lib.hid ((show Blk W.drew w.heap.size _ _ from BKW.out).below b6 BKW.out.lt)
  have BN6 := Lib.hid ((show Blk W.drew gN _ _ from BNW.out).below b6 BNW.out.lt)
  have RP6 := Lib.hid (RPT.out.below BL6.out)
  have HGL := Lib.hid (show w.heap.size < gN ∧ gN < w6.heap.size from ⟨by have := HGN.out; omega, BN6.out.lt⟩)
  have eln : (IV IntKind.u8 E).length = n := by rw [IV_length]; exact HEL.out
  have ELN := Lib.hid eln
  have hr0 : (IV IntKind.u8 (List.replicate n 0)).length = n := by rw [IV_length]; simp
  clear b5 b6 b6' hHeld hHeld5 hHeld6 KS CT CE' eln HNN
  have HR0 := Lib.hid hr0
  clear hr0
  go_wp2_with (first
    | (refine wpList_copy_splice rfl (.tmp 34) (.tmp 35) 23 23 rfl 5 rfl rfl _ _ n n p.length c rfl rfl w6.heap.size 0 (IV .u8 (List.replicate n 0)) 5 (Blk.new w6 _ _) (IV .u8 E) (by rw [ELN.out, HMN.out]) (fun hn => ⟨rfl, (by
            obtain ⟨ad, e, _, hc⟩ := (RP6.out.alloc (.cells (IV .u8 (List.replicate n 0)).toArray 5)).2 (by have h := ELN.out; rw [IV_length] at h; rw [h]; rw [ELN.out] at hn; exact hn)
            exact ⟨ad, e, hc⟩)⟩) (by rw [ELN.out, HR0.out]; omega) (IV_oneCell _ _) w6.heap.size w6 ((Below.refl _ _).alloc (Nat.le_refl _) _) (Nat.le_refl _) ?_
       intro w7 h7 b7
       have H7 := Lib.hid (show Blk w7 w6.heap.size 5 (IV .u8 E).toArray from (by
         have h := h7.out
         have e : splice (IV .u8 (List.replicate n 0)) 0 (IV .u8 E) = IV .u8 E := by
           unfold splice
           rw [ELN.out, List.drop_of_length_le (by rw [HR0.out]; omega)]; simp
         rw [e] at h; exact h))
       have BL7 := Lib.hid (BL6.out.trans (b7.mono BL6.out.size))
       have BK7 := Lib.hid (BK6.out.below b7 BK6.out.lt)
       have BN7 := Lib.hid (BN6.out.below b7 BN6.out.lt)
       clear h7 b7)
    | refine wpList_load_row rfl 22 (.tmp 4) rfl w.heap.size rfl 22 KL.toArray (0, 0) _ BK7.out Tryd.underlying22 rfl (by rw [show KL.toArray.size = 32 from SK]; exact I32.out) ?_
    | refine wpList_load_row rfl 32 (.tmp 5) rfl gN rfl 32 NL.toArray (0, 0) _ BN7.out Tryd.underlying32 rfl (by rw [show NL.toArray.size = 12 from SN]; exact I12.out) ?_)
  refine (CX.out _ _ H7.out).mono ?_
  rintro e w8 ⟨rfl, k8, g8⟩
  have BL8 := Lib.hid (grown_below BL7.out g8 BL7.out.size (by have := HGL.out; omega))
  have O8 := Lib.hid (show Own w8 w.heap.size (some ⟨w6.heap.size, 0, none⟩) n plain from Own.part (rest := []) (by rw [List.append_nil]; exact k8) (by have := HGL.out; omega) (by rw [HPL.out]; rfl) (by have := hp16; omega))
  clear k8 g8 CX
  go_wp2_with fail
  go_ret2
  exact ⟨some ⟨w6.heap.size, 0, none⟩, n, by rw [HPL.out]; rfl, O8.out, BL8.out⟩
end Go.Proofs.YtjibbegdieiknaaDoor

/-
  append to a row of the call's own, as one step of a region that draws its order.
-/
namespace Go.Proofs.YtjibbegdieiknaaDoor
open Go.RowKit
set_option linter.unusedVariables false

/-- What a step of append leaves. -/
theorem step_appV {ops : Array Oper} {o : Oper} {a : Act} {w : World} {K : Act → World → Prop} {Q : Exit → Act → World → Prop} {E0 : Prop} (hgd : o.guard = none) (s x : Operand) (T E : TypeId) (size bytes : Nat) (z : Value)
    (ho : o.op = .call { callee := .builtin .append, args := #[s, x], argTypes := #[T, T] }) (hT : Tryd.prog.underlying T = some (.slice E))
    (hinfo : (Tryd.prog.info? E).map (fun i => (i.zero, i.size, i.bytes)) = some (some z, size, bytes)) (hzs : z.cells.size = size) (hsz : 0 < size)
    (base : Nat) {c d n m : Nat} {A B : Option Addr} {xs news : List Value} (hs : a.eval s = .slice A n c) (hx : a.eval x = .slice B m d) (hown : OwnV w base E size A c n xs) (hr : Reads w w.heap.size size B m news)
    (h1 : ∀ u ∈ news, u.oneCell' = true) (h63 : n + m ≤ maxLen) (hbytes : (n + m) * bytes ≤ 140737488355328) (hbase : base ≤ w.heap.size)
    (h : ∀ A' c' w', OwnV w' base E size A' c' (n + m) (xs ++ news) → w.grownBy w' (Value.slice A n c).ownBlock → Below base w w' → ((Value.slice A' (n + m) c').ownBlock = (Value.slice A n c).ownBlock ∨ (Value.slice A' (n + m) c').ownBlock = some w.heap.size) →
      K (a.put o.dst (.slice A' (n + m) c')) w') :
    if Region.wanted o (yielded ops a.tmps) = true then Oper.wp Tryd.prog o a w K Q else E0 := by
  have hw : Region.wanted o (yielded ops a.tmps) = true := by simp [Region.wanted, hgd]
  rw [if_pos hw]
  obtain ⟨i0, hi0, hz0, hz1, hz2⟩ := info_parts hinfo
  obtain ⟨v', w', hrun, h2, h3, h4⟩ := run_append_any (P := Tryd.prog) w base T o.type E i0 _ size bytes hT hi0 hz0 hz1 hz2 hzs hsz _ _ _ hown _ B _ d _ hr h1 h63 hbytes hbase
  unfold Oper.wp execOp
  simp only [ho, resolve, invoke, builtin, Sem.run_bind, Sem.run_pure, Result.andThen_ok, List.map_toArray, List.map_cons, List.map_nil, hs, hx, hrun]
  have hform : ∃ A' c', v' = .slice A' (n + m) c' := by
    rcases h2.2 with ⟨rfl, h0⟩ | ⟨g, cap, cur, rfl, _⟩
    · exact ⟨none, 0, by rw [h0]⟩
    · exact ⟨_, _, rfl⟩
  obtain ⟨A', c', rfl⟩ := hform
  exact h A' c' w' h2 h3 ((Below.refl _ _).grown h3 hbase hown.row_ge) h4

theorem wpList_appV2 {ops : Array Oper} {rest : List Oper} {o : Oper} {a : Act} {w : World} {Q : Exit → Act → World → Prop} (hgd : o.guard = none) (s x : Operand) (T E : TypeId) (size bytes : Nat) (z : Value)
    (ho : o.op = .call { callee := .builtin .append, args := #[s, x], argTypes := #[T, T] }) (hT : Tryd.prog.underlying T = some (.slice E))
    (hinfo : (Tryd.prog.info? E).map (fun i => (i.zero, i.size, i.bytes)) = some (some z, size, bytes)) (hzs : z.cells.size = size) (hsz : 0 < size)
    (base : Nat) {c d n m : Nat} {A B : Option Addr} {xs news : List Value} (hs : a.eval s = .slice A n c) (hx : a.eval x = .slice B m d) (hown : OwnV w base E size A c n xs) (hr : Reads w w.heap.size size B m news)
    (h1 : ∀ u ∈ news, u.oneCell' = true) (h63 : n + m ≤ maxLen) (hbytes : (n + m) * bytes ≤ 140737488355328) (hbase : base ≤ w.heap.size)
    (h : ∀ A' c' w', OwnV w' base E size A' c' (n + m) (xs ++ news) → w.grownBy w' (Value.slice A n c).ownBlock → Below base w w' → ((Value.slice A' (n + m) c').ownBlock = (Value.slice A n c).ownBlock ∨ (Value.slice A' (n + m) c').ownBlock = some w.heap.size) →
      wpList Tryd.prog ops Q rest (a.put o.dst (.slice A' (n + m) c')) w') : wpList Tryd.prog ops Q (o :: rest) a w :=
  wpList_plain hgd fun K hK => by
    have := step_appV (ops := ops) (K := K) (Q := Q) (E0 := True) hgd s x T E size bytes z ho hT hinfo hzs hsz base hs hx hown hr h1 h63 hbytes hbase fun A' c' w' a1 a2 a3 a4 => hK _ _ (h A' c' w' a1 a2 a3 a4)
    have hw : Region.wanted o (yielded ops a.tmps) = true := by simp [Region.wanted, hgd]
    rwa [if_pos hw] at this
/-- One element that was laid by itself reads as it is. -/
theorem reads_one (w : World) (E : TypeId) (v : Value) (base : Nat) : Reads (w.alloc (.cells #[v] E)) (w.alloc (.cells #[v] E)).heap.size 1 (some ⟨w.heap.size, 0, none⟩) 1 [v] := by
  refine ⟨rfl, fun _ => ⟨_, rfl, by simp, fun j u hu => ?_⟩⟩
  have hj : j = 0 := by
    rcases Nat.eq_zero_or_pos j with h | h
    · exact h
    · rw [List.getElem?_eq_none (by simp; omega)] at hu; cases hu
  subst hj
  simp at hu
  subst hu
  simp [Addr.add]
theorem OwnV.row_lt {w : World} {base : Nat} {e : TypeId} {size n : Nat} {A : Option Addr} {c : Nat} {xs : List Value} (h : OwnV w base e size A c n xs) {k : Nat} (hk : (Value.slice A n c).ownBlock = some k) : k < w.heap.size := by
  rcases h.row_is with ⟨rfl, _⟩ | ⟨g, cur, rfl, _, hb, _⟩
  · cases hk
  · simp [Value.ownBlock] at hk
    subst hk
    exact hb.lt
/-- A row is left alone where another row is written. -/
theorem OwnV.apart {w w' : World} {base : Nat} {e : TypeId} {size n : Nat} {A : Option Addr} {c : Nat} {xs : List Value} {row : Option Nat} (h : OwnV w base e size A c n xs) (hg : w.grownBy w' row) (hne : ∀ k, (Value.slice A n c).ownBlock = some k → row ≠ some k) : OwnV w' base e size A c n xs := by
  obtain ⟨h1, h2⟩ := h
  refine ⟨h1, ?_⟩
  rcases h2 with h2 | ⟨g, cap, cur, hv, hb, hh, r⟩
  · exact .inl h2
  · refine .inr ⟨g, cap, cur, hv, hb, ?_, r⟩
    injection hv with hA
    subst hA
    have := hne g (by simp [Value.ownBlock])
    rw [hg.block g (Blk.lt hh) (Ne.symm this)]; exact hh
theorem ownBlock_len (A : Option Addr) (n m c d : Nat) : (Value.slice A n c).ownBlock = (Value.slice A m d).ownBlock := by
  cases A <;> rfl
theorem own_1 (w : World) (E : TypeId) (v : Value) {base : Nat} (hb : base ≤ w.heap.size) : OwnV (w.alloc (.cells #[v] E)) base E 1 (some ⟨w.heap.size, 0, none⟩) 1 1 [v] :=
  ⟨rfl, .inr ⟨w.heap.size, 1, #[v], rfl, hb, Blk.new w _ _, Nat.le_refl _, by unfold maxLen; omega, rfl, rfl⟩⟩
theorem info_u64 : (Tryd.prog.info? 26).map (fun i => (i.zero, i.size, i.bytes)) = some (some (.int .u64 0), 1, 8) := by kernel_rfl
/-- append of bytes: the new row is the old one or a new block. -/
theorem wpList_appX2 {ops : Array Oper} {rest : List Oper} {o : Oper} {a : Act} {w : World} {Q : Exit → Act → World → Prop} (hgd : o.guard = none) (s x : Operand)
    (ho : o.op = .call { callee := .builtin .append, args := #[s, x], argTypes := #[23, 23] })
    (base : Nat) {c d : Nat} {A B : Option Addr} {l news : List Int} (X : List Int) (hX : X = l ++ news) (hs : a.eval s = .slice A l.length c) (hx : a.eval x = .slice B news.length d) (hown : Own w base A c l) (hr : Rd w B news)
    (hlen : l.length + news.length ≤ 70368744177664) (hbase : base ≤ w.heap.size)
    (h : ∀ A' c' w', Own w' base A' c' X → w.grownBy w' (Value.slice A l.length c).ownBlock → Below base w w' → ((Value.slice A' X.length c').ownBlock = (Value.slice A l.length c).ownBlock ∨ (Value.slice A' X.length c').ownBlock = some w.heap.size) →
      wpList Tryd.prog ops Q rest (a.put o.dst (.slice A' X.length c')) w') : wpList Tryd.prog ops Q (o :: rest) a w := by
  subst hX
  refine wpList_appV2 hgd s x 23 5 1 1 (.int .u8 0) ho Tryd.underlying23 info_u8 rfl (by omega) base (n := l.length) (m := news.length) (xs := U8 l) (news := U8 news) hs hx hown hr (U8_oneCell _) (by unfold maxLen; omega) (by omega) hbase ?_
  intro A' c' w' h1 h2 h3 h4
  have := h A' c' w' (by unfold Own; rw [U8_append, List.length_append]; exact h1) h2 h3 (by rw [List.length_append]; exact h4)
  rwa [List.length_append] at this
end Go.Proofs.YtjibbegdieiknaaDoor
