/-
  The reference's ReadGram (made by mkItemF.py).
-/
import Derived.Test.YtpaglcojbcndoaaDoorItemE
namespace Go.Proofs.YtpaglcojbcndoaaDoor
open Go.RowKit
set_option linter.unusedVariables false
set_option linter.unusedSimpArgs false
theorem prG_pn (p : List Int) : prG p = match pnums 4 p with
    | some ([m, al, gr, ob], q) => (if m = 1 then match q with | [] => none | x :: d => if d.length ≤ 2048 then some (al, ⟨gr, ob, x, true, d⟩) else none else none)
    | _ => none := by
  unfold prG
  cases h1 : pnum p with
  | none => simp only [pnums, h1]
  | some r1 =>
    obtain ⟨m, q1⟩ := r1
    cases h2 : pnum q1 with
    | none => simp only [pnums, h1, h2]; split <;> rfl
    | some r2 =>
      obtain ⟨al, q2⟩ := r2
      cases h3 : pnum q2 with
      | none => simp only [pnums, h1, h2, h3]; split <;> rfl
      | some r3 =>
        obtain ⟨gr, q3⟩ := r3
        cases h4 : pnum q3 with
        | none => simp only [pnums, h1, h2, h3, h4]; split <;> rfl
        | some r4 =>
          obtain ⟨ob, q4⟩ := r4
          simp only [pnums, h1, h2, h3, h4]
          split <;> rfl
theorem results_trt {P : Program} {fn : Func} {u p v : Tmp} {ty : TypeId} (h : fn.results = #[.tmp u, .cell p ty, .tmp v]) (tmps : Array Value) (w : World) (g : Nat) (t : TypeId) (cs : Array Value) (fr : Nat × Nat) (d : TypeDesc)
    (hp : tmps.getD p undef = .pointer (some ⟨g, 0, none⟩)) (hg : w.heap[g]? = some (.cells cs t fr))
    (hu : P.underlying ty = some d) (hd : (match d with | .struct _ | .array _ _ => true | _ => false) = true) (hi : (P.info? ty).map (·.size) = some cs.size) :
    (results fn tmps).run P w = .ok (.tuple #[tmps.getD u undef, .agg cs, tmps.getD v undef]) w := by
  have hl := run_loadVar_row w g t ty cs fr d hg hu hd hi
  have hp' : tmps[p]?.getD undef = .pointer (some ⟨g, 0, none⟩) := by simpa using hp
  simp only [results, h]
  simp [hp', asAddr, hl]
/-- What stays in the last statement. -/
structure FS (w' : World) (g bl ol bq oq : Nat) (al gr ob x : Int) : Prop where
  c1 : w'.cell? ⟨bl, ol + 1, none⟩ = some (.int .u64 al)
  c2 : w'.cell? ⟨bl, ol + 2, none⟩ = some (.int .u64 gr)
  c3 : w'.cell? ⟨bl, ol + 3, none⟩ = some (.int .u64 ob)
  c4 : w'.cell? ⟨bq, oq, none⟩ = some (.int .u8 x)
set_option maxRecDepth 100000 in
set_option maxHeartbeats 3200000 in
theorem refReadGram_any (A : Option Addr) (c : Nat) (p : List Int) (w : World) (h : Sl w A c p) (hb : Bytes p) (hl : p.length ≤ 1000000) (hlt : ∀ ad, A = some ad → ad.block < w.heap.size) :
    Calls Tryd.prog 13 #[.slice A p.length c] w fun r w' => GramR w w' p r := by
  obtain ⟨W, hW⟩ : ∃ W, W = w.alloc (.cells zeroO 27) := ⟨_, rfl⟩
  have bw : Below w.heap.size w W := by rw [hW]; exact (Below.refl _ _).alloc (Nat.le_refl _) _
  have HWZ := Lib.hid (show w.heap.size < W.heap.size by rw [hW]; simp)
  have KR := Lib.hid (show Blk W w.heap.size 27 zeroO by rw [hW]; exact Blk.new _ _ _)
  have BW := Lib.hid bw
  have CT := Lib.hid (refTakes_any A c p 4 W (h.below bw) hb (by omega) (fun ad e => Nat.lt_of_lt_of_le (hlt ad e) bw.size) (by decide))
  obtain ⟨P9, hP9⟩ : ∃ P9 : World → Ending → Prop, P9 = fun w' r => GramR w w' p r := ⟨_, rfl⟩
  have HP := Lib.hid hP9
  rw [show (fun r w' => GramR w w' p r) = fun r w' => P9 w' r by rw [hP9]]
  have HPG := Lib.hid (prG_pn p)
  unfold zeroO at hW
  have HW := Lib.hid hW
  have HBY := Lib.hid hb
  clear h hb bw hW hlt hP9
  go_enter Tryd.func13, Tryd.ntmps13
  go_wp2_with fail
  rw [← HW.out]
  refine CT.out.mono ?_
  rintro e w2 h2
  have b2 := h2.bel
  have kr := KR.out.below b2 KR.out.lt
  have bl2 := BW.out.trans (b2.mono BW.out.size)
  have BL := Lib.hid (show Below w.heap.size w (w2.setRow w.heap.size zeroO) from ⟨bl2.os, bl2.tape, bl2.output, by simpa using bl2.size, fun i hi => (setRow_other w2 w.heap.size i zeroO (by omega)).trans (bl2.block i hi)⟩)
  have BL2 := Lib.hid bl2
  clear bl2 CT KR BW HW
  cases hp : pnums 4 p with
  | none =>
    obtain rfl := h2.no hp
    have HE := Lib.hid (show prG p = none by rw [HPG.out, hp])
    clear h2 hp b2
    go_wp2_with (refine wpList_store_row rfl 27 (.tmp 3) (.tmp 32) rfl w.heap.size zeroO rfl rfl 27 _ kr info_obj rfl zeroO_one ?_)
    refine bodyPost_ret (results_trt rfl _ _ w.heap.size 27 _ (0, 0) _ rfl (setRowI kr zeroO) Tryd.underlying27 rfl (by kernel_rfl)) rfl ?_
    show P9 _ _
    rw [HP.out]
    exact ⟨fun al o he => (by rw [HE.out] at he; cases he), fun _ => rfl, BL.out⟩
  | some lq =>
    obtain ⟨l, q⟩ := lq
    obtain ⟨vA, vc, A2, c2, rfl, u1, s2, ow⟩ := h2.ok l q hp
    have ow2 := ow (by decide)
    have r1 : RdI .u64 w2 vA l := OwnV.reads u1
    have hWz : w.heap.size < W.heap.size := HWZ.out
    have hpb := pnums_by HBY.out hp
    have hpg := HPG.out
    rw [hp] at hpg
    obtain ⟨m, al, gr, ob, rfl⟩ : ∃ m al gr ob, l = [m, al, gr, ob] := by
      rcases l with _ | ⟨a, _ | ⟨b, _ | ⟨c, _ | ⟨d, _ | ⟨e, l⟩⟩⟩⟩⟩
      · cases hpb.2.1
      · cases hpb.2.1
      · cases hpb.2.1
      · cases hpb.2.1
      · exact ⟨a, b, c, d, rfl⟩
      · have := hpb.2.1; simp at this
    simp only at hpg
    obtain ⟨bl, ol, rfl, hbl⟩ := r1.some_ (by simp)
    have HNB := Lib.hid (show bl ≠ w.heap.size from fun e => by have := OwnV.row_ge u1 bl (by simp [Value.ownBlock]); omega)
    have m0 := r1.cell (j := 0) (x := m) rfl
    have m1 := r1.cell (j := 1) (x := al) rfl
    have m2 := r1.cell (j := 2) (x := gr) rfl
    have m3 := r1.cell (j := 3) (x := ob) rfl
    simp only [Nat.add_zero] at m0
    have HQ := Lib.hid hpb
    have S2 := Lib.hid s2
    have OW2 := Lib.hid ow2
    clear h2 hp b2 r1 s2 hpb u1 ow ow2
    simp only [List.length_cons, List.length_nil]
    by_cases hm : m = 1
    · subst hm
      have hmm : ((1 : Int) != 1) = false := by decide
      rw [if_pos rfl] at hpg
      rcases q with _ | ⟨x, d⟩
      · have HE := Lib.hid (show prG p = none by rw [hpg])
        simp only [List.length_nil]
        clear hpg m1 m2 m3
        go_wp2_with (refine wpList_store_row rfl 27 (.tmp 3) (.tmp 32) rfl w.heap.size zeroO rfl rfl 27 _ kr info_obj rfl zeroO_one ?_)
        refine bodyPost_ret (results_trt rfl _ _ w.heap.size 27 _ (0, 0) _ rfl (setRowI kr zeroO) Tryd.underlying27 rfl (by kernel_rfl)) rfl ?_
        show P9 _ _
        rw [HP.out]
        exact ⟨fun al o he => (by rw [HE.out] at he; cases he), fun _ => rfl, BL.out⟩
      · simp only at hpg
        by_cases hd : d.length ≤ 2048
        · rw [if_pos hd] at hpg
          have HR := Lib.hid hpg
          obtain ⟨bq, oq, rfl, hbq⟩ := S2.out.rd.some_ (by simp)
          have HNQ := Lib.hid (show bq ≠ w.heap.size from fun e => by
            obtain ⟨g', hg', hge, _⟩ := OW2.out.form (by simp)
            injection hg' with hg'
            injection hg' with hg'
            omega)
          have q0 := S2.out.rd.cell (j := 0) (x := x) rfl
          simp only [Nat.add_zero] at q0
          obtain ⟨A7, v1, v2, v3⟩ := slice_from (some ⟨bq, oq, none⟩) c2 (x :: d) 1 .i64 (by simp) S2.out.le
          rw [show (x :: d).drop 1 = d from rfl, show ((1 : Nat) : Int) = 1 from rfl] at v1
          rw [show (x :: d).drop 1 = d from rfl] at v2
          have CPY := Lib.hid (fun W' (hb : Below w2.heap.size w2 W') => copy_any A7 (c2 - 1) d W' (Rd.below (v2 w2 S2.out.rd) hb) (by omega))
          obtain ⟨L, hL⟩ : ∃ L, L = (x :: d).length := ⟨_, rfl⟩
          have hL1 : L = d.length + 1 := by rw [hL]; rfl
          rw [← hL] at v1 ⊢
          have hLz : (L == 0) = false := by simp; omega
          have hLz2 : ((L : Int) == 0) = false := by simp; omega
          have hLg : decide ((2049 : Int) < (L : Int)) = false := by simp; omega
          have hL0 : 0 < L := by omega
          clear hpg hL v2 v3 hL1
          go_wp2_with fail
          have ST := Lib.hid (show FS w2 0 bl ol bq oq al gr ob x from ⟨m1, m2, m3, q0⟩)
          have FB := Lib.hid (show ∀ W', Below w2.heap.size w2 W' → FS W' 0 bl ol bq oq al gr ob x from fun W' hb => ⟨(hb.cell (p := ⟨bl, ol + 1, none⟩) hbl).trans m1, (hb.cell (p := ⟨bl, ol + 2, none⟩) hbl).trans m2, (hb.cell (p := ⟨bl, ol + 3, none⟩) hbl).trans m3, (hb.cell (p := ⟨bq, oq, none⟩) hbq).trans q0⟩)
          have K2 := Lib.hid kr
          clear m0 m1 m2 m3 q0 kr
          refine wp_region_held_drew (S := fun w' => FS w' 0 bl ol bq oq al gr ob x) (by kernel_rfl) (FB.out _ (Below.refl _ _).drew) (fun s0 => ?_)
          refine wpAnyH_take (i := 0) (oi := ⟨_, _, _, _, _, _⟩) (v := .slice (some ⟨bl, ol, none⟩) 4 vc) rfl (by kernel_rfl) (by kernel_rfl) (by kernel_rfl) (fun _ _ _ h => h) (Or.inl ⟨by rfl, fun w' hS => by go_simp⟩) s0 ?_
          simp only [Act.put, List.setIfInBounds_toArray, List.set_cons_zero, List.set_cons_succ]
          refine wpAnyH_take (i := 1) (oi := ⟨_, _, _, _, _, _⟩) (v := .pointer (some ⟨bl, ol + 1, none⟩)) rfl (by kernel_rfl) (by kernel_rfl) (by kernel_rfl) (fun _ _ _ h => h) (Or.inl ⟨by rfl, fun w' hS => by go_simp⟩) s0 ?_
          simp only [Act.put, List.setIfInBounds_toArray, List.set_cons_zero, List.set_cons_succ]
          refine wpAnyH_take (i := 2) (oi := ⟨_, _, _, _, _, _⟩) (v := .int .u64 al) rfl (by kernel_rfl) (by kernel_rfl) (by kernel_rfl) (fun _ _ _ h => h) (Or.inl ⟨by rfl, fun w' hS => by have c0 := (hS : FS w' 0 bl ol bq oq al gr ob x).c1; go_simp⟩) s0 ?_
          simp only [Act.put, List.setIfInBounds_toArray, List.set_cons_zero, List.set_cons_succ]
          refine wpAnyH_take (i := 3) (oi := ⟨_, _, _, _, _, _⟩) (v := .slice (some ⟨bl, ol, none⟩) 4 vc) rfl (by kernel_rfl) (by kernel_rfl) (by kernel_rfl) (fun _ _ _ h => h) (Or.inl ⟨by rfl, fun w' hS => by go_simp⟩) s0 ?_
          simp only [Act.put, List.setIfInBounds_toArray, List.set_cons_zero, List.set_cons_succ]
          refine wpAnyH_take (i := 4) (oi := ⟨_, _, _, _, _, _⟩) (v := .pointer (some ⟨bl, ol + 2, none⟩)) rfl (by kernel_rfl) (by kernel_rfl) (by kernel_rfl) (fun _ _ _ h => h) (Or.inl ⟨by rfl, fun w' hS => by go_simp⟩) s0 ?_
          simp only [Act.put, List.setIfInBounds_toArray, List.set_cons_zero, List.set_cons_succ]
          refine wpAnyH_take (i := 5) (oi := ⟨_, _, _, _, _, _⟩) (v := .int .u64 gr) rfl (by kernel_rfl) (by kernel_rfl) (by kernel_rfl) (fun _ _ _ h => h) (Or.inl ⟨by rfl, fun w' hS => by have c0 := (hS : FS w' 0 bl ol bq oq al gr ob x).c2; go_simp⟩) s0 ?_
          simp only [Act.put, List.setIfInBounds_toArray, List.set_cons_zero, List.set_cons_succ]
          refine wpAnyH_take (i := 6) (oi := ⟨_, _, _, _, _, _⟩) (v := .slice (some ⟨bl, ol, none⟩) 4 vc) rfl (by kernel_rfl) (by kernel_rfl) (by kernel_rfl) (fun _ _ _ h => h) (Or.inl ⟨by rfl, fun w' hS => by go_simp⟩) s0 ?_
          simp only [Act.put, List.setIfInBounds_toArray, List.set_cons_zero, List.set_cons_succ]
          refine wpAnyH_take (i := 7) (oi := ⟨_, _, _, _, _, _⟩) (v := .pointer (some ⟨bl, ol + 3, none⟩)) rfl (by kernel_rfl) (by kernel_rfl) (by kernel_rfl) (fun _ _ _ h => h) (Or.inl ⟨by rfl, fun w' hS => by go_simp⟩) s0 ?_
          simp only [Act.put, List.setIfInBounds_toArray, List.set_cons_zero, List.set_cons_succ]
          refine wpAnyH_take (i := 8) (oi := ⟨_, _, _, _, _, _⟩) (v := .int .u64 ob) rfl (by kernel_rfl) (by kernel_rfl) (by kernel_rfl) (fun _ _ _ h => h) (Or.inl ⟨by rfl, fun w' hS => by have c0 := (hS : FS w' 0 bl ol bq oq al gr ob x).c3; go_simp⟩) s0 ?_
          simp only [Act.put, List.setIfInBounds_toArray, List.set_cons_zero, List.set_cons_succ]
          refine wpAnyH_take (i := 9) (oi := ⟨_, _, _, _, _, _⟩) (v := .agg #[.int .u64 gr, .int .u64 ob]) rfl (by kernel_rfl) (by kernel_rfl) (by kernel_rfl) (fun _ _ _ h => h) (Or.inl ⟨by rfl, fun w' hS => by go_simp⟩) s0 ?_
          simp only [Act.put, List.setIfInBounds_toArray, List.set_cons_zero, List.set_cons_succ]
          refine wpAnyH_take (i := 10) (oi := ⟨_, _, _, _, _, _⟩) (v := .slice (some ⟨bq, oq, none⟩) L c2) rfl (by kernel_rfl) (by kernel_rfl) (by kernel_rfl) (fun _ _ _ h => h) (Or.inl ⟨by rfl, fun w' hS => by go_simp⟩) s0 ?_
          simp only [Act.put, List.setIfInBounds_toArray, List.set_cons_zero, List.set_cons_succ]
          refine wpAnyH_take (i := 11) (oi := ⟨_, _, _, _, _, _⟩) (v := .pointer (some ⟨bq, oq, none⟩)) rfl (by kernel_rfl) (by kernel_rfl) (by kernel_rfl) (fun _ _ _ h => h) (Or.inl ⟨by rfl, fun w' hS => by go_simp⟩) s0 ?_
          simp only [Act.put, List.setIfInBounds_toArray, List.set_cons_zero, List.set_cons_succ]
          refine wpAnyH_take (i := 12) (oi := ⟨_, _, _, _, _, _⟩) (v := .int .u8 x) rfl (by kernel_rfl) (by kernel_rfl) (by kernel_rfl) (fun _ _ _ h => h) (Or.inl ⟨by rfl, fun w' hS => by have c0 := (hS : FS w' 0 bl ol bq oq al gr ob x).c4; go_simp⟩) s0 ?_
          simp only [Act.put, List.setIfInBounds_toArray, List.set_cons_zero, List.set_cons_succ]
          refine wpAnyH_take (i := 13) (oi := ⟨_, _, _, _, _, _⟩) (v := .slice (some ⟨bq, oq, none⟩) L c2) rfl (by kernel_rfl) (by kernel_rfl) (by kernel_rfl) (fun _ _ _ h => h) (Or.inl ⟨by rfl, fun w' hS => by go_simp⟩) s0 ?_
          simp only [Act.put, List.setIfInBounds_toArray, List.set_cons_zero, List.set_cons_succ]
          refine wpAnyH_take (i := 14) (oi := ⟨_, _, _, _, _, _⟩) (v := .slice A7 d.length (c2 - 1)) rfl (by kernel_rfl) (by kernel_rfl) (by kernel_rfl) (fun _ _ _ h => h) (Or.inl ⟨by rfl, fun w' hS => by go_simp⟩) s0 ?_
          simp only [Act.put, List.setIfInBounds_toArray, List.set_cons_zero, List.set_cons_succ]
          refine wpAnyH_ready (rs := [15]) (by kernel_rfl) (by simp) ?_
          refine AllReadyH.cons rfl (fun K hK => ?_) AllReadyH.nil
          go_simp
          refine (CPY.out _ (Below.refl _ _).drew).mono ?_
          rintro e w3 ⟨A9, c9, rfl, o9, b9⟩
          have b23 : Below w2.heap.size w2 w3 := (Below.refl w2.heap.size w2).drew.trans b9
          refine hK.out _ _ (FB.out _ b23) (fun s3 => ?_)
          have K3 := Lib.hid (K2.out.below b23 K2.out.lt)
          have O9 := Lib.hid o9
          have B3 := Lib.hid (BL2.out.trans (b23.mono BL2.out.size))
          have B23 := Lib.hid b23
          have HLT := Lib.hid (show bl < w3.heap.size ∧ bq < w3.heap.size ∧ bl ≠ w.heap.size ∧ bq ≠ w.heap.size from ⟨Nat.lt_of_lt_of_le hbl b23.size, Nat.lt_of_lt_of_le hbq b23.size, HNB.out, HNQ.out⟩)
          clear hK K o9 b9 b23 s0
          obtain ⟨OC, hOC⟩ : ∃ OC, OC = ovC ⟨gr, ob, x, true, d⟩ A9 c9 := ⟨_, rfl⟩
          have HOC := Lib.hid hOC
          have HO1 := Lib.hid (show OC.all (·.oneCell') = true by rw [hOC]; simp [ovC, Value.oneCell'])
          clear hOC
          refine wpAnyH_take (i := 16) (oi := ⟨_, _, _, _, _, _⟩) (v := .agg #[.int .u64 gr, .int .u64 ob, .int .u8 x, .bool true, .slice A9 d.length c9]) rfl (by kernel_rfl) (by kernel_rfl) (by kernel_rfl) (fun _ _ _ h => h) (Or.inl ⟨by rfl, fun w' hS => by go_simp⟩) s3 ?_
          simp only [Act.put, List.setIfInBounds_toArray, List.set_cons_zero, List.set_cons_succ]
          refine wpAnyH_take (i := 17) (oi := ⟨_, _, _, _, _, _⟩) (v := .int .u64 al) rfl (by kernel_rfl) (by kernel_rfl) (by kernel_rfl) (fun _ _ _ h => h) (Or.inl ⟨by rfl, fun w' hS => by go_simp⟩) s3 ?_
          simp only [Act.put, List.setIfInBounds_toArray, List.set_cons_zero, List.set_cons_succ]
          refine wpAnyH_ready (rs := [18]) (by kernel_rfl) (by simp) ?_
          refine AllReadyH.cons rfl (fun K hK => ?_) AllReadyH.nil
          rw [if_pos (by rfl)]
          refine wp_store_row 27 (.tmp 3) (.tmp 49) rfl w.heap.size OC rfl (by rw [HOC.out]; rfl) 27 _ K3.out (by rw [HOC.out]; exact info_obj) (by rw [HOC.out]; rfl) HO1.out ?_
          simp only [List.getElem_toArray, List.getElem_cons_succ, List.getElem_cons_zero, Act.put, List.setIfInBounds_toArray, List.set_cons_succ, List.set_cons_zero]
          have FR := Lib.hid (show ∀ W', w3.grownBy W' (some w.heap.size) → FS W' 0 bl ol bq oq al gr ob x from fun W' hg => by
            have f := FB.out w3 B23.out
            exact ⟨(World.cell?_of_block (a := ⟨bl, ol + 1, none⟩) (hg.block bl HLT.out.1 (fun e => by injection e with e; exact HLT.out.2.2.1 e))).trans f.c1, (World.cell?_of_block (a := ⟨bl, ol + 2, none⟩) (hg.block bl HLT.out.1 (fun e => by injection e with e; exact HLT.out.2.2.1 e))).trans f.c2, (World.cell?_of_block (a := ⟨bl, ol + 3, none⟩) (hg.block bl HLT.out.1 (fun e => by injection e with e; exact HLT.out.2.2.1 e))).trans f.c3, (World.cell?_of_block (a := ⟨bq, oq, none⟩) (hg.block bq HLT.out.2.1 (fun e => by injection e with e; exact HLT.out.2.2.2 e))).trans f.c4⟩)
          have gs : w3.grownBy (w3.setRow w.heap.size OC) (some w.heap.size) := only_setRowI _ _ _
          refine hK.out _ _ (show FS (w3.setRow w.heap.size OC) 0 bl ol bq oq al gr ob x from FR.out _ gs) (fun s4 => ?_)
          clear hK K s3
          refine wpAnyH_take (i := 19) (oi := ⟨_, _, _, _, _, _⟩) (v := .int .i64 0) rfl (by kernel_rfl) (by kernel_rfl) (by kernel_rfl) (fun _ _ _ h => h) (Or.inl ⟨by rfl, fun w' hS => by go_simp⟩) s4 ?_
          simp only [Act.put, List.setIfInBounds_toArray, List.set_cons_zero, List.set_cons_succ]
          refine wpAnyH_done (by kernel_rfl) ?_ _
          go_wp2_with fail
          refine bodyPost_ret (results_trt rfl _ _ w.heap.size 27 _ (0, 0) _ rfl (setRowI K3.out OC) Tryd.underlying27 rfl (by rw [HOC.out]; exact info_obj)) rfl ?_
          show P9 _ _
          rw [HP.out]
          refine ⟨fun al' o' he => ?_, fun he => (by rw [HR.out] at he; cases he), ⟨B3.out.os, B3.out.tape, B3.out.output, by simpa using B3.out.size, fun i hi => (setRow_other w3 w.heap.size i OC (by omega)).trans (B3.out.block i hi)⟩⟩
          rw [HR.out] at he
          injection he with he
          injection he with h1 h2
          subst h1 h2
          exact ⟨A9, c9, by rw [HOC.out]; rfl, Own.grown (Own.base_leI O9.out (Nat.le_trans BL2.out.size (Nat.le_refl _))) gs (fun k cur hb e => by injection e with e; exact Blk.ne_ K3.out hb (by decide) e)⟩
        · have HE := Lib.hid (show prG p = none by rw [hpg, if_neg hd])
          obtain ⟨L, hL⟩ : ∃ L, L = (x :: d).length := ⟨_, rfl⟩
          have hL1 : L = d.length + 1 := by rw [hL]; rfl
          rw [← hL]
          have hLz : (L == 0) = false := by simp; omega
          have hLz2 : ((L : Int) == 0) = false := by simp; omega
          have hLg : decide ((2049 : Int) < (L : Int)) = true := by simp; omega
          clear hpg hL m1 m2 m3 hL1
          go_wp2_with (refine wpList_store_row rfl 27 (.tmp 3) (.tmp 32) rfl w.heap.size zeroO rfl rfl 27 _ kr info_obj rfl zeroO_one ?_)
          refine bodyPost_ret (results_trt rfl _ _ w.heap.size 27 _ (0, 0) _ rfl (setRowI kr zeroO) Tryd.underlying27 rfl (by kernel_rfl)) rfl ?_
          show P9 _ _
          rw [HP.out]
          exact ⟨fun al o he => (by rw [HE.out] at he; cases he), fun _ => rfl, BL.out⟩
    · have hmm : (m != 1) = true := by simpa using hm
      have HE := Lib.hid (show prG p = none by rw [hpg, if_neg hm])
      clear hpg m1 m2 m3
      go_wp2_with (refine wpList_store_row rfl 27 (.tmp 3) (.tmp 32) rfl w.heap.size zeroO rfl rfl 27 _ kr info_obj rfl zeroO_one ?_)
      refine bodyPost_ret (results_trt rfl _ _ w.heap.size 27 _ (0, 0) _ rfl (setRowI kr zeroO) Tryd.underlying27 rfl (by kernel_rfl)) rfl ?_
      show P9 _ _
      rw [HP.out]
      exact ⟨fun al o he => (by rw [HE.out] at he; cases he), fun _ => rfl, BL.out⟩
end Go.Proofs.YtpaglcojbcndoaaDoor
