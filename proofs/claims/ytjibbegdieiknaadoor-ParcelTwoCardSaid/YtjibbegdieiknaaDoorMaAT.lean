/-
  parcel.Draw, Next, Turn.
-/
import Derived.Test.YtjibbegdieiknaaDoorMaAS
namespace Go.Proofs.YtjibbegdieiknaaDoor
open Go.RowKit
set_option maxRecDepth 100000
set_option linter.unusedVariables false
set_option linter.unusedSimpArgs false

theorem gb_self (w : World) (row : Option Nat) : w.grownBy w row := ⟨rfl, rfl, rfl, Nat.le_refl _, fun _ _ _ => rfl⟩
theorem own_range {w : World} {base c g : Nat} {l : List Int} (o : Own w base (some ⟨g, 0, none⟩) c l) : w.rangeAt g 0 (IV .u8 l) := fun j v hv => by
  obtain ⟨x, hx, rfl⟩ : ∃ x, l[j]? = some x ∧ .int .u8 x = v := by simpa [IV] using hv
  exact (Rd.of_own o).cell hx
theorem range_grown {w w' : World} {g o : Nat} {cs : List Value} {row : Option Nat} (h : w.rangeAt g o cs) (hg : w.grownBy w' row) (hl : g < w.heap.size) (hne : some g ≠ row) : w'.rangeAt g o cs :=
  fun j v hv => (World.cell?_of_block (hg.block g hl hne)).trans (h j v hv)
theorem STab.grownP {w w' : World} {g : Nat} (h : STab w) (hg : w.grownBy w' (some g)) (hl : 0 < g) : STab w' :=
  ⟨Nat.lt_of_lt_of_le h.1 hg.size, fun i x hx => (World.cell?_of_block (hg.block _ h.1 (fun e => by have e : (0 : Nat) = g := Option.some.inj e; omega))).trans (h.2 i x hx)⟩
theorem KTab.grownP {w w' : World} {g : Nat} (h : KTab w) (hg : w.grownBy w' (some g)) (hl : 3 < g) : KTab w' :=
  ⟨Nat.lt_of_lt_of_le h.1 hg.size, fun i x hx => (World.cell?_of_block (hg.block _ h.1 (fun e => by have e : (3 : Nat) = g := Option.some.inj e; omega))).trans (h.2 i x hx)⟩

def nKey : ByteArray := { data := #[113, 117, 105, 99, 32, 107, 101, 121] }
def nIv : ByteArray := { data := #[113, 117, 105, 99, 32, 105, 118] }
def nHp : ByteArray := { data := #[113, 117, 105, 99, 32, 104, 112] }
def nKu : ByteArray := { data := #[113, 117, 105, 99, 32, 107, 117] }
def nCl : ByteArray := { data := #[99, 108, 105, 101, 110, 116, 32, 105, 110] }
def nSv : ByteArray := { data := #[115, 101, 114, 118, 101, 114, 32, 105, 110] }
theorem lab_length (s : List Int) (nm : ByteArray) (n : Nat) : (lab s nm n).length = n := hkdf_length _ _ _
theorem lab_bytes (s : List Int) (nm : ByteArray) (n : Nat) : Bytes (lab s nm n) := hkdf_bytes _ _ _
theorem zero76 (w : World) : (zeroValue 34).run Tryd.prog w = .ok (.agg (IV .u8 (List.replicate 76 0)).toArray) w := by kernel_rfl
theorem zero32' (w : World) : (zeroValue 22).run Tryd.prog w = .ok (.agg (IV .u8 (List.replicate 32 0)).toArray) w := rfl

set_option maxHeartbeats 6400000 in
theorem Draw_any (s : List Int) (w : World) (hk : s.length = 32) (hkb : Bytes s) (hS : STab w) (hK : KTab w) :
    Calls Tryd.prog 10 #[.agg (IV .u8 s).toArray] w fun r w' => r = .returned (KV (lab s nKey 32) (lab s nIv 12) (lab s nHp 32)) ∧ Below w.heap.size w w' := by
  obtain ⟨O1, hO1⟩ : ∃ O, O = lab s nKey 32 := ⟨_, rfl⟩
  obtain ⟨O2, hO2⟩ : ∃ O, O = lab s nIv 12 := ⟨_, rfl⟩
  obtain ⟨O3, hO3⟩ : ∃ O, O = lab s nHp 32 := ⟨_, rfl⟩
  have L1 := Lib.hid (show O1.length = 32 by rw [hO1]; exact lab_length _ _ _)
  have L2 := Lib.hid (show O2.length = 12 by rw [hO2]; exact lab_length _ _ _)
  have L3 := Lib.hid (show O3.length = 32 by rw [hO3]; exact lab_length _ _ _)
  obtain ⟨KL, hKL⟩ : ∃ KL, KL = IV .u8 s := ⟨_, rfl⟩
  have SK : KL.length = 32 := by rw [hKL, IV_length, hk]
  obtain ⟨OK, hOK⟩ : ∃ OK, OK = IV .u8 (O1 ++ O2 ++ O3) := ⟨_, rfl⟩
  have SO := Lib.hid (show OK.toArray.size = 76 by have h1 := L1.out; have h2 := L2.out; have h3 := L3.out; rw [hOK]; simp [IV]; omega)
  have AO := Lib.hid (show OK.toArray.all (·.oneCell') = true by rw [hOK]; simp [IV, Value.oneCell'])
  have BK := Lib.hid (show Tryd.prog.built 34 [(0, .agg (IV .u8 O1).toArray), (1, .agg (IV .u8 O2).toArray), (2, .agg (IV .u8 O3).toArray)] = some OK.toArray by
    rw [built_keys (IV .u8 O1) (IV .u8 O2) (IV .u8 O3) (by rw [IV_length]; exact L1.out) (by rw [IV_length]; exact L2.out) (by rw [IV_length]; exact L3.out), hOK, IV_append, IV_append])
  have IT := Lib.hid (show (Tryd.prog.info? 34).map (·.size) = some 76 by kernel_rfl)
  have hu32 := Tryd.underlying22
  have hu12 := Tryd.underlying32
  have hi32 : (Tryd.prog.info? 22).map (·.size) = some KL.length := by rw [SK]; kernel_rfl
  have hi1 := Lib.hid (show (Tryd.prog.info? 22).map (·.size) = some (IV .u8 O1).length by rw [IV_length, L1.out]; kernel_rfl)
  have hi2 := Lib.hid (show (Tryd.prog.info? 32).map (·.size) = some (IV .u8 O2).length by rw [IV_length, L2.out]; kernel_rfl)
  have hi3 := Lib.hid (show (Tryd.prog.info? 22).map (·.size) = some (IV .u8 O3).length by rw [IV_length, L3.out]; kernel_rfl)
  have CL := Lib.hid (fun (nm : ByteArray) (n : Nat) W (hn : n ≤ 8160) (hs : nm.size ≤ 249) (h1 : STab W) (h2 : KTab W) => label_any s nm n W hk hkb hn hs h1 h2)
  rw [← hKL] at CL
  obtain ⟨Z, hZ⟩ : ∃ Z, Z = (IV .u8 (List.replicate 76 0)).toArray := ⟨_, rfl⟩
  have hz76 : ∀ w, (zeroValue 34).run Tryd.prog w = .ok (.agg Z) w := by rw [hZ]; exact zero76
  have ZS := Lib.hid (show Z.size = 76 by rw [hZ]; simp [IV])
  have HS := Lib.hid hS
  have HK := Lib.hid hK
  have eKV : KV O1 O2 O3 = .agg OK.toArray := by rw [hOK]; rfl
  rw [← hKL, ← hO1, ← hO2, ← hO3, eKV]
  have H1 := Lib.hid hO1
  have H2 := Lib.hid hO2
  have H3 := Lib.hid hO3
  clear hO1 hO2 hO3 hKL hOK hZ hk hkb hS hK eKV
  go_enter Tryd.func10, Tryd.ntmps10
  go_wp2_with fail
  obtain ⟨W, hW⟩ : ∃ W, W = (w.alloc (.cells KL.toArray 22)).alloc (.cells Z 34) := ⟨_, rfl⟩
  have bK := Lib.hid (show Blk W w.heap.size 22 KL.toArray by rw [hW]; exact (Blk.new w _ _).alloc _)
  have bR := Lib.hid (show Blk W (w.heap.size + 1) 34 Z by rw [hW]; exact blk_second w _ _ _)
  have bL := Lib.hid (show Below w.heap.size w W by rw [hW]; exact ((Below.refl _ _).alloc (Nat.le_refl _) _).alloc (by simp) _)
  show Code.wp _ _ _ _ ((w.alloc (.cells KL.toArray 22)).alloc (.cells Z 34))
  rw [← hW]
  obtain ⟨gR, hgR⟩ : ∃ g, g = w.heap.size + 1 := ⟨_, rfl⟩
  rw [← hgR] at bR ⊢
  have HG := Lib.hid hgR
  obtain ⟨W0, hW0⟩ : ∃ W0, W0 = W.drew := ⟨_, rfl⟩
  have b0 : Below w.heap.size w W0 := by rw [hW0]; exact bL.out.drew
  have rW0 : Blk W0 gR 34 Z := by rw [hW0]; exact bR.out
  have k0 : Blk W0 w.heap.size 22 KL.toArray := by rw [hW0]; exact bK.out
  have hGR := Lib.hid (show gR < W0.heap.size ∧ w.heap.size < gR from ⟨rW0.lt, by omega⟩)
  have HS0 := Lib.hid (HS.out.below b0)
  have HK0 := Lib.hid (HK.out.below b0)
  have tab : ∀ W', W0.grownBy W' (some gR) → STab W' ∧ KTab W' := fun W' h => by
    have h1 := HS.out.1; have h2 := HK.out.1; have h3 := hGR.out
    exact ⟨HS0.out.grownP h (by omega), HK0.out.grownP h (by omega)⟩
  have C1 := Lib.hid (fun W' (h : W0.grownBy W' (some gR)) => show Calls Tryd.prog 22 #[.agg KL.toArray, .string { data := #[113, 117, 105, 99, 32, 107, 101, 121] }, .int .i64 32] W' (fun r w' => ∃ A' c', r = .returned (.slice A' 32 c') ∧ Own w' W'.heap.size A' c' O1 ∧ Below W'.heap.size W' w') by rw [H1.out]; exact CL.out nKey 32 W' (by decide) (by decide) (tab W' h).1 (tab W' h).2)
  have C2 := Lib.hid (fun W' (h : W0.grownBy W' (some gR)) => show Calls Tryd.prog 22 #[.agg KL.toArray, .string { data := #[113, 117, 105, 99, 32, 105, 118] }, .int .i64 12] W' (fun r w' => ∃ A' c', r = .returned (.slice A' 12 c') ∧ Own w' W'.heap.size A' c' O2 ∧ Below W'.heap.size W' w') by rw [H2.out]; exact CL.out nIv 12 W' (by decide) (by decide) (tab W' h).1 (tab W' h).2)
  have C3 := Lib.hid (fun W' (h : W0.grownBy W' (some gR)) => show Calls Tryd.prog 22 #[.agg KL.toArray, .string { data := #[113, 117, 105, 99, 32, 104, 112] }, .int .i64 32] W' (fun r w' => ∃ A' c', r = .returned (.slice A' 32 c') ∧ Own w' W'.heap.size A' c' O3 ∧ Below W'.heap.size W' w') by rw [H3.out]; exact CL.out nHp 32 W' (by decide) (by decide) (tab W' h).1 (tab W' h).2)
  have KR : ∀ w', W0.grownBy w' (some gR) → w'.rangeAt w.heap.size 0 KL := fun w' h => (k0.grown h (by have := hGR.out; intro e; injection e; omega)).range
  have B0 := Lib.hid b0
  have FIN := Lib.hid (show ∀ (a : Act) (wF : World) (t : TypeId) (cs : Array Value), W0.grownBy wF (some gR) → Blk wF gR 34 OK.toArray.toList.toArray → Below w.heap.size w wF ∧ Blk wF gR 34 OK.toArray from fun a wF t cs h hb => ⟨grown_below B0.out h B0.out.size (by have := hGR.out; omega), hb⟩)
  have hG0 : W0.grownBy W0 (some gR) := gb_self _ _
  clear CL tab HS HK HS0 HK0 H1 H2 H3 b0 k0 bK bR bL hW hgR HG
  refine wp_region_held_drew (S := fun w' => W0.grownBy w' (some gR)) (by kernel_rfl) (by rw [← hW0]; exact hG0) (fun _ => ?_)
  rw [← hW0]
  clear hW0
  refine wpAnyH_take (i := 0) (oi := ⟨_, _, _, _, _, _⟩) rfl (by kernel_rfl) (by kernel_rfl) (by kernel_rfl) (fun _ _ _ h => h) (yieldsIf_load_mid (by rfl) 22 (.tmp 1) rfl w.heap.size 0 rfl KL _ (fun w h => KR w h) hu32 rfl hi32) hG0 ?_
  simp only [Act.put, List.setIfInBounds_toArray, List.set_cons_zero, List.set_cons_succ]
  refine wpAnyH_take (i := 4) (oi := ⟨_, _, _, _, _, _⟩) rfl (by kernel_rfl) (by kernel_rfl) (by kernel_rfl) (fun _ _ _ h => h) (yieldsIf_load_mid (by rfl) 22 (.tmp 1) rfl w.heap.size 0 rfl KL _ (fun w h => KR w h) hu32 rfl hi32) hG0 ?_
  simp only [Act.put, List.setIfInBounds_toArray, List.set_cons_zero, List.set_cons_succ]
  refine wpAnyH_take (i := 8) (oi := ⟨_, _, _, _, _, _⟩) rfl (by kernel_rfl) (by kernel_rfl) (by kernel_rfl) (fun _ _ _ h => h) (yieldsIf_load_mid (by rfl) 22 (.tmp 1) rfl w.heap.size 0 rfl KL _ (fun w h => KR w h) hu32 rfl hi32) hG0 ?_
  simp only [Act.put, List.setIfInBounds_toArray, List.set_cons_zero, List.set_cons_succ]
  refine wpAnyH_ready (rs := [1]) (by kernel_rfl) (by simp) ?_
  refine AllReadyH.cons rfl (fun K hK => ?_) AllReadyH.nil
  · go_simp
    refine (C1.out _ hG0).mono ?_
    rintro e W01 ⟨AW01, cW01, rfl, oW01, bW01⟩
    have hsW01 : W0.heap.size ≤ W01.heap.size := bW01.size
    have hgW01 : W0.grownBy W01 (some gR) := only_of_below bW01 _
    have hG01 : W0.grownBy W01 (some gR) := only_trans hG0 hgW01
    have rW01 := rW0.below bW01 rW0.lt
    obtain ⟨gW01, hAW01, hlW01, hmW01⟩ := oW01.form (by rw [L1.out]; decide)
    subst hAW01
    have hneW01 : some gW01 ≠ some gR := by intro h; injection h with h; have h1 := hGR.out; have h2 := hG0.size; omega
    have qW01 : ∀ w', W01.grownBy w' (some gR) → w'.rangeAt gW01 0 (IV .u8 O1) := fun w' h => range_grown (own_range oW01) h hmW01 hneW01
    refine hK.out _ _ hG01 (fun _ => ?_)
    clear hK K
    have tW01_W01 : W01.grownBy W01 (some gR) := gb_self _ _
    refine wpAnyH_take (i := 2) (oi := ⟨_, _, _, _, _, _⟩) rfl (by kernel_rfl) (by kernel_rfl) (by kernel_rfl) (fun _ _ _ h => h) (yields_arrayAt (r := .pointer (some ⟨gW01, 0, none⟩)) (by rfl) 22 (.tmp 4) rfl (fun w => run_arrayAt (P := Tryd.prog) (w := w) 22 5 32 (some ⟨gW01, 0, none⟩) 32 cW01 Tryd.underlying22 (Nat.le_refl _))) hG01 ?_
    simp only [Act.put, List.setIfInBounds_toArray, List.set_cons_zero, List.set_cons_succ]
    refine wpAnyH_and (T := fun w' => W01.grownBy w' (some gR)) _ _ _ _ ?_
    refine wpAnyH_take (i := 3) (oi := ⟨_, _, _, _, _, _⟩) rfl (by kernel_rfl) (by kernel_rfl) (by kernel_rfl) (fun _ _ _ h => h) (yieldsIf_load_mid (by rfl) 22 (.tmp 5) rfl gW01 0 rfl (IV .u8 O1) _ (fun w h => qW01 w h.2) hu32 rfl hi1.out) ⟨hG01, tW01_W01⟩ ?_
    simp only [Act.put, List.setIfInBounds_toArray, List.set_cons_zero, List.set_cons_succ]
    refine wpAnyH_ready (rs := [5]) (by kernel_rfl) (by simp) ?_
    refine AllReadyH.cons rfl (fun K hK => ?_) AllReadyH.nil
    · go_simp
      refine (C2.out _ hG01).mono ?_
      rintro e W012 ⟨AW012, cW012, rfl, oW012, bW012⟩
      have hsW012 : W01.heap.size ≤ W012.heap.size := bW012.size
      have hgW012 : W01.grownBy W012 (some gR) := only_of_below bW012 _
      have hG012 : W0.grownBy W012 (some gR) := only_trans hG01 hgW012
      have rW012 := rW01.below bW012 rW01.lt
      have tW01_W012 : W01.grownBy W012 (some gR) := only_trans tW01_W01 hgW012
      obtain ⟨gW012, hAW012, hlW012, hmW012⟩ := oW012.form (by rw [L2.out]; decide)
      subst hAW012
      have hneW012 : some gW012 ≠ some gR := by intro h; injection h with h; have h1 := hGR.out; have h2 := hG01.size; omega
      have qW012 : ∀ w', W012.grownBy w' (some gR) → w'.rangeAt gW012 0 (IV .u8 O2) := fun w' h => range_grown (own_range oW012) h hmW012 hneW012
      refine hK.out _ _ ⟨hG012, tW01_W012⟩ (fun _ => ?_)
      clear hK K
      have tW012_W012 : W012.grownBy W012 (some gR) := gb_self _ _
      refine wpAnyH_take (i := 6) (oi := ⟨_, _, _, _, _, _⟩) rfl (by kernel_rfl) (by kernel_rfl) (by kernel_rfl) (fun _ _ _ h => h) (yields_arrayAt (r := .pointer (some ⟨gW012, 0, none⟩)) (by rfl) 32 (.tmp 8) rfl (fun w => run_arrayAt (P := Tryd.prog) (w := w) 32 5 12 (some ⟨gW012, 0, none⟩) 12 cW012 Tryd.underlying32 (Nat.le_refl _))) ⟨hG012, tW01_W012⟩ ?_
      simp only [Act.put, List.setIfInBounds_toArray, List.set_cons_zero, List.set_cons_succ]
      refine wpAnyH_and (T := fun w' => W012.grownBy w' (some gR)) _ _ _ _ ?_
      refine wpAnyH_take (i := 7) (oi := ⟨_, _, _, _, _, _⟩) rfl (by kernel_rfl) (by kernel_rfl) (by kernel_rfl) (fun _ _ _ h => h) (yieldsIf_load_mid (by rfl) 32 (.tmp 9) rfl gW012 0 rfl (IV .u8 O2) _ (fun w h => qW012 w h.2) hu12 rfl hi2.out) ⟨⟨hG012, tW01_W012⟩, tW012_W012⟩ ?_
      simp only [Act.put, List.setIfInBounds_toArray, List.set_cons_zero, List.set_cons_succ]
      refine wpAnyH_ready (rs := [9]) (by kernel_rfl) (by simp) ?_
      refine AllReadyH.cons rfl (fun K hK => ?_) AllReadyH.nil
      · go_simp
        refine (C3.out _ hG012).mono ?_
        rintro e W0123 ⟨AW0123, cW0123, rfl, oW0123, bW0123⟩
        have hsW0123 : W012.heap.size ≤ W0123.heap.size := bW0123.size
        have hgW0123 : W012.grownBy W0123 (some gR) := only_of_below bW0123 _
        have hG0123 : W0.grownBy W0123 (some gR) := only_trans hG012 hgW0123
        have rW0123 := rW012.below bW0123 rW012.lt
        have tW01_W0123 : W01.grownBy W0123 (some gR) := only_trans tW01_W012 hgW0123
        have tW012_W0123 : W012.grownBy W0123 (some gR) := only_trans tW012_W012 hgW0123
        obtain ⟨gW0123, hAW0123, hlW0123, hmW0123⟩ := oW0123.form (by rw [L3.out]; decide)
        subst hAW0123
        have hneW0123 : some gW0123 ≠ some gR := by intro h; injection h with h; have h1 := hGR.out; have h2 := hG012.size; omega
        have qW0123 : ∀ w', W0123.grownBy w' (some gR) → w'.rangeAt gW0123 0 (IV .u8 O3) := fun w' h => range_grown (own_range oW0123) h hmW0123 hneW0123
        refine hK.out _ _ ⟨⟨hG0123, tW01_W0123⟩, tW012_W0123⟩ (fun _ => ?_)
        clear hK K
        have tW0123_W0123 : W0123.grownBy W0123 (some gR) := gb_self _ _
        refine wpAnyH_take (i := 10) (oi := ⟨_, _, _, _, _, _⟩) rfl (by kernel_rfl) (by kernel_rfl) (by kernel_rfl) (fun _ _ _ h => h) (yields_arrayAt (r := .pointer (some ⟨gW0123, 0, none⟩)) (by rfl) 22 (.tmp 12) rfl (fun w => run_arrayAt (P := Tryd.prog) (w := w) 22 5 32 (some ⟨gW0123, 0, none⟩) 32 cW0123 Tryd.underlying22 (Nat.le_refl _))) ⟨⟨hG0123, tW01_W0123⟩, tW012_W0123⟩ ?_
        simp only [Act.put, List.setIfInBounds_toArray, List.set_cons_zero, List.set_cons_succ]
        refine wpAnyH_and (T := fun w' => W0123.grownBy w' (some gR)) _ _ _ _ ?_
        refine wpAnyH_take (i := 11) (oi := ⟨_, _, _, _, _, _⟩) rfl (by kernel_rfl) (by kernel_rfl) (by kernel_rfl) (fun _ _ _ h => h) (yieldsIf_load_mid (by rfl) 22 (.tmp 13) rfl gW0123 0 rfl (IV .u8 O3) _ (fun w h => qW0123 w h.2) hu32 rfl hi3.out) ⟨⟨⟨hG0123, tW01_W0123⟩, tW012_W0123⟩, tW0123_W0123⟩ ?_
        simp only [Act.put, List.setIfInBounds_toArray, List.set_cons_zero, List.set_cons_succ]
        refine wpAnyH_take (i := 12) (oi := ⟨_, _, _, _, _, _⟩) rfl (by kernel_rfl) (by kernel_rfl) (by kernel_rfl) (fun _ _ _ h => h) (yields_build (by rfl) 34 #[(0, .tmp 6), (1, .tmp 10), (2, .tmp 14)] rfl (by rw [List.map_toArray]; exact BK.out)) ⟨⟨⟨hG0123, tW01_W0123⟩, tW012_W0123⟩, tW0123_W0123⟩ ?_
        simp only [Act.put, List.setIfInBounds_toArray, List.set_cons_zero, List.set_cons_succ]
        refine wpAnyH_ready (rs := [13]) (by kernel_rfl) (by simp) ?_
        refine AllReadyH.cons rfl (fun K hK => ?_) AllReadyH.nil
        rw [if_pos (by rfl)]
        refine wp_store_mid 34 (.tmp 2) (.tmp 15) rfl gR 0 OK.toArray rfl rfl (Blk.there_ rW0123 (by rw [ZS.out]; exact Nat.le_of_eq SO.out)) (by rw [SO.out]; exact IT.out) AO.out ?_
        have hzW0123 : (OK.toArray.toList).length = Z.size := by rw [ZS.out]; exact SO.out
        have rsW0123 := rW0123.setAll hzW0123
        refine hK.out _ _ ⟨⟨⟨(only_setCells _ _ _ hG0123), only_setCells _ _ _ tW01_W0123⟩, only_setCells _ _ _ tW012_W0123⟩, only_setCells _ _ _ tW0123_W0123⟩ (fun _ => ?_)
        clear hK K
        refine wpAnyH_done (by kernel_rfl) ?_ _
        obtain ⟨bF, rF⟩ := FIN.out { tmps := #[], defers := [] } _ 0 #[] (only_setCells _ _ _ hG0123) rsW0123
        have BF := Lib.hid bF
        have RF := Lib.hid rF
        clear bF rF
        go_wp2_with fail
        exact bodyPost_ret (v := .agg OK.toArray) (results_cell_row rfl _ _ gR 34 _ (0, 0) _ rfl RF.out Tryd.underlying34 rfl (by rw [SO.out]; exact IT.out)) rfl ⟨rfl, BF.out⟩
end Go.Proofs.YtjibbegdieiknaaDoor

/-
  parcel.Next, Turn.
-/
namespace Go.Proofs.YtjibbegdieiknaaDoor
open Go.RowKit
set_option maxRecDepth 100000
set_option linter.unusedVariables false
set_option linter.unusedSimpArgs false

set_option maxHeartbeats 1600000 in
theorem Next_any (s : List Int) (w : World) (hk : s.length = 32) (hkb : Bytes s) (hS : STab w) (hK : KTab w) :
    Calls Tryd.prog 17 #[.agg (IV .u8 s).toArray] w fun r w' => r = .returned (.agg (IV .u8 (lab s nKu 32)).toArray) ∧ Below w.heap.size w w' := by
  obtain ⟨O1, hO1⟩ : ∃ O, O = lab s nKu 32 := ⟨_, rfl⟩
  have L1 := Lib.hid (show O1.length = 32 by rw [hO1]; exact lab_length _ _ _)
  obtain ⟨OA, hOA⟩ : ∃ OA, OA = (IV .u8 O1).toArray := ⟨_, rfl⟩
  have SOA := Lib.hid (show OA.size = 32 by rw [hOA]; simp [IV, L1.out])
  have AO := Lib.hid (show OA.all (·.oneCell') = true by rw [hOA]; simp [IV, Value.oneCell'])
  have HOA := Lib.hid (show (IV .u8 O1).toArray = OA from hOA.symm)
  obtain ⟨KL, hKL⟩ : ∃ KL, KL = (IV .u8 s).toArray := ⟨_, rfl⟩
  have SK := Lib.hid (show KL.size = 32 by rw [hKL]; simp [IV, hk])
  have I32 := Lib.hid (show (Tryd.prog.info? 22).map (·.size) = some 32 by kernel_rfl)
  have hu32 := Tryd.underlying22
  have hi1 := Lib.hid (show (Tryd.prog.info? 22).map (·.size) = some (IV .u8 O1).length by rw [IV_length, L1.out]; kernel_rfl)
  obtain ⟨Z, hZ⟩ : ∃ Z, Z = (IV .u8 (List.replicate 32 0)).toArray := ⟨_, rfl⟩
  have hz32 : ∀ w, (zeroValue 22).run Tryd.prog w = .ok (.agg Z) w := by rw [hZ]; exact zero32'
  have ZS := Lib.hid (show Z.size = 32 by rw [hZ]; simp [IV])
  obtain ⟨W, hW⟩ : ∃ W, W = (w.alloc (.cells KL 22)).alloc (.cells Z 22) := ⟨_, rfl⟩
  have bK := Lib.hid (show Blk W w.heap.size 22 KL by rw [hW]; exact (Blk.new w _ _).alloc _)
  have bR := Lib.hid (show Blk W (w.heap.size + 1) 22 Z by rw [hW]; exact blk_second w _ _ _)
  have bL := Lib.hid (show Below w.heap.size w W by rw [hW]; exact ((Below.refl _ _).alloc (Nat.le_refl _) _).alloc (by simp) _)
  have C1 := Lib.hid (show Calls Tryd.prog 22 #[.agg KL, .string { data := #[113, 117, 105, 99, 32, 107, 117] }, .int .i64 32] W (fun r w' => ∃ A' c', r = .returned (.slice A' 32 c') ∧ Own w' W.heap.size A' c' O1 ∧ Below W.heap.size W w') by rw [hKL, hO1]; exact label_any s nKu 32 W hk hkb (by decide) (by decide) (hS.below bL.out) (hK.below bL.out))
  rw [← hKL, ← hO1, ← hOA]
  clear hO1 hOA hKL hZ hk hkb hS hK
  go_enter Tryd.func17, Tryd.ntmps17
  go_upto_region 1 with fail
  show Code.wp _ _ _ _ ((w.alloc (.cells KL 22)).alloc (.cells Z 22))
  rw [← hW]
  clear hW
  go_wp2_with (first
    | refine wpList_load_row rfl 22 (.tmp 1) rfl w.heap.size rfl 22 KL (0, 0) _ bK.out Tryd.underlying22 rfl (by rw [SK.out]; exact I32.out) ?_
    | (go_at_call 22; refine C1.out.mono ?_; rintro e w1 ⟨A1, c1, rfl, o1, b1⟩
       obtain ⟨g1, hA1, hl1, hm1⟩ := o1.form (by rw [L1.out]; decide)
       subst hA1
       have RO := Lib.hid (own_range o1)
       have R1 := Lib.hid (bR.out.below b1 bR.out.lt)
       have B1 := Lib.hid (bL.out.trans (b1.mono bL.out.size))
       have hArr : (Instr.arrayAt 22 (.slice (some ⟨g1, 0, none⟩) 32 c1)).run Tryd.prog w1 = .ok (.pointer (some ⟨g1, 0, none⟩)) w1 := run_arrayAt (P := Tryd.prog) (w := w1) 22 5 32 (some ⟨g1, 0, none⟩) 32 c1 Tryd.underlying22 (Nat.le_refl _)
       clear o1 b1)
    | (refine wpList_load_mid rfl 22 (.tmp 5) rfl g1 0 rfl (IV .u8 O1) _ RO.out hu32 rfl hi1.out ?_
       rw [HOA.out])
    | refine wpList_store_row rfl 22 (.tmp 2) (.tmp 6) rfl (w.heap.size + 1) OA rfl rfl 22 Z R1.out (by rw [SOA.out]; exact I32.out) (by rw [SOA.out, ZS.out]) AO.out ?_)
  refine bodyPost_ret (v := .agg OA) (results_cell_row rfl _ _ (w.heap.size + 1) 22 _ (0, 0) _ rfl (Blk.row R1.out _) Tryd.underlying22 rfl (by rw [SOA.out]; exact I32.out)) rfl ⟨rfl, ?_⟩
  exact below_setRow B1.out (by omega) _

theorem Blk.there_at {w : World} {g : Nat} {t : TypeId} {cs : Array Value} (h : Blk w g t cs) {o n : Nat} (hn : o + n ≤ cs.size) : w.there g o n := fun j hj => by
  rw [h.cell, Array.getElem?_eq_getElem (show o + j < cs.size by omega)]
  exact ⟨rfl, h.frozen _⟩
theorem setCells_mask {K I M M' : List Value} {w : World} {g : Nat} {t : TypeId} (hk : K.length = 32) (hi : I.length = 12) (hm : M.length = 32) (hm' : M'.length = 32) (h : Blk w g t (K ++ I ++ M).toArray) :
    Blk (w.setCells g 44 M') g t (K ++ I ++ M').toArray := by
  have k := Blk.setPut (g := g) (t := t) M' 44 (K ++ I ++ M) w h (by simp; omega)
  rw [List.take_left' (by simp; omega), hm', List.drop_of_length_le (by simp; omega), List.append_nil] at k
  exact k
set_option maxHeartbeats 3200000 in
theorem Turn_any (key iv mask s : List Int) (w : World) (h1 : key.length = 32) (h2 : iv.length = 12) (h3 : mask.length = 32) (hk : s.length = 32) (hkb : Bytes s) (hS : STab w) (hK : KTab w) :
    Calls Tryd.prog 18 #[KV key iv mask, .agg (IV .u8 s).toArray] w fun r w' => r = .returned (KV (lab s nKey 32) (lab s nIv 12) mask) ∧ Below w.heap.size w w' := by
  obtain ⟨O1, hO1⟩ : ∃ O, O = lab s nKey 32 := ⟨_, rfl⟩
  obtain ⟨O2, hO2⟩ : ∃ O, O = lab s nIv 12 := ⟨_, rfl⟩
  obtain ⟨O3, hO3⟩ : ∃ O, O = lab s nHp 32 := ⟨_, rfl⟩
  have L1 : O1.length = 32 := by rw [hO1]; exact lab_length _ _ _
  have L2 : O2.length = 12 := by rw [hO2]; exact lab_length _ _ _
  have L3 : O3.length = 32 := by rw [hO3]; exact lab_length _ _ _
  have CD := Lib.hid (fun W (a : STab W) (b : KTab W) => Draw_any s W hk hkb a b)
  obtain ⟨SA, hSA⟩ : ∃ SA, SA = (IV .u8 s).toArray := ⟨_, rfl⟩
  have SS := Lib.hid (show SA.size = 32 by rw [hSA]; simp [IV, hk])
  obtain ⟨DA, hDA⟩ : ∃ DA, DA = (IV .u8 (O1 ++ O2 ++ O3)).toArray := ⟨_, rfl⟩
  obtain ⟨RA, hRA⟩ : ∃ RA, RA = (IV .u8 (O1 ++ O2 ++ mask)).toArray := ⟨_, rfl⟩
  obtain ⟨QA, hQA⟩ : ∃ QA, QA = (IV .u8 (key ++ iv ++ mask)).toArray := ⟨_, rfl⟩
  rw [← hO1, ← hO2, ← hO3, show KV O1 O2 O3 = .agg DA by rw [hDA]; rfl, ← hSA] at CD
  rw [← hO1, ← hO2, show KV O1 O2 mask = .agg RA by rw [hRA]; rfl, ← hSA, show KV key iv mask = .agg QA by rw [hQA]; rfl]
  have SD := Lib.hid (show DA.size = 76 by rw [hDA]; simp [IV]; omega)
  have AD := Lib.hid (show DA.all (·.oneCell') = true by rw [hDA]; simp [IV, Value.oneCell'])
  have SR := Lib.hid (show RA.size = 76 by rw [hRA]; simp [IV]; omega)
  have AR := Lib.hid (show RA.all (·.oneCell') = true by rw [hRA]; simp [IV, Value.oneCell'])
  have SQ := Lib.hid (show QA.size = 76 by rw [hQA]; simp [IV]; omega)
  have I32 := Lib.hid (show (Tryd.prog.info? 22).map (·.size) = some 32 by kernel_rfl)
  have I76 := Lib.hid (show (Tryd.prog.info? 34).map (·.size) = some 76 by kernel_rfl)
  obtain ⟨Z, hZ⟩ : ∃ Z, Z = (IV .u8 (List.replicate 76 0)).toArray := ⟨_, rfl⟩
  have hz76 : ∀ w, (zeroValue 34).run Tryd.prog w = .ok (.agg Z) w := by rw [hZ]; exact zero76
  have ZS := Lib.hid (show Z.size = 76 by rw [hZ]; simp [IV])
  obtain ⟨MV, hMV⟩ : ∃ MV, MV = IV .u8 mask := ⟨_, rfl⟩
  have SM := Lib.hid (show MV.toArray.size = 32 by rw [hMV]; simp [IV, h3])
  have SM' := Lib.hid (show MV.length = 32 by rw [hMV, IV_length, h3])
  have AM := Lib.hid (show MV.toArray.all (·.oneCell') = true by rw [hMV]; simp [IV, Value.oneCell'])
  have hu32 := Tryd.underlying22
  have hi32 := Lib.hid (show (Tryd.prog.info? 22).map (·.size) = some MV.length by rw [SM'.out]; kernel_rfl)
  obtain ⟨W, hW⟩ : ∃ W, W = ((w.alloc (.cells QA 34)).alloc (.cells SA 22)).alloc (.cells Z 34) := ⟨_, rfl⟩
  have bQ := Lib.hid (show Blk W w.heap.size 34 QA by rw [hW]; exact ((Blk.new w _ _).alloc _).alloc _)
  have bS := Lib.hid (show Blk W (w.heap.size + 1) 22 SA by rw [hW]; exact (blk_second w _ _ _).alloc _)
  have bR := Lib.hid (show Blk W (w.heap.size + 1 + 1) 34 Z by
    have h := blk_second (w.alloc (.cells QA 34)) (.cells SA 22) 34 Z
    rw [hW]; simpa using h)
  have bL := Lib.hid (show Below w.heap.size w W by rw [hW]; exact (((Below.refl _ _).alloc (Nat.le_refl _) _).alloc (by simp) _).alloc (by simp; omega) _)
  have C1 := Lib.hid (CD.out W (hS.below bL.out) (hK.below bL.out))
  have RQ := Lib.hid (show ∀ w1, Below W.heap.size W w1 → w1.rangeAt w.heap.size 44 MV from fun w1 hb => by
    have h := bQ.out.below hb bQ.out.lt
    rw [hQA] at h
    rw [hMV]
    exact (keys_range h1 h2 h).2.2)
  have PUT := Lib.hid (show ∀ (w5 : World) (g : Nat), Blk w5 g 34 DA → Blk (w5.setCells g 44 MV) g 34 RA from fun w5 g hb => by
    rw [hDA, IV_append, IV_append] at hb
    rw [hRA, IV_append, IV_append, hMV]
    exact setCells_mask (by rw [IV_length, L1]) (by rw [IV_length, L2]) (by rw [IV_length, L3]) (by rw [IV_length, h3]) hb)
  clear CD hO1 hO2 hO3 L1 L2 L3 hSA hDA hRA hQA hZ hMV h1 h2 h3 hk hkb hS hK
  go_enter Tryd.func18, Tryd.ntmps18
  go_upto_region 1 with fail
  show Code.wp _ _ _ _ (((w.alloc (.cells QA 34)).alloc (.cells SA 22)).alloc (.cells Z 34))
  rw [← hW]
  clear hW
  go_wp2_with (first
    | refine wpList_load_row rfl 22 (.tmp 3) rfl (w.heap.size + 1) rfl 22 SA (0, 0) _ bS.out Tryd.underlying22 rfl (by rw [SS.out]; exact I32.out) ?_
    | (go_at_call 10; refine C1.out.mono ?_; rintro e w1 ⟨rfl, b1⟩
       have R1 := Lib.hid ((bR.out.below b1 bR.out.lt).alloc (.cells Z 34))
       have N1 := Lib.hid (Blk.new w1 34 Z)
       have Q1 := Lib.hid (RQ.out w1 b1)
       have B1 := Lib.hid (bL.out.trans (b1.mono bL.out.size))
       have hs1 : w.heap.size + 1 + 1 < w1.heap.size := (bR.out.below b1 bR.out.lt).lt
       clear b1)
    | (refine wpList_store_row rfl 34 (.tmp 5) (.tmp 7) rfl w1.heap.size DA rfl rfl 34 Z N1.out (by rw [SD.out]; exact I76.out) (by rw [SD.out, ZS.out]) AD.out ?_
       have T2 := Lib.hid (Blk.row N1.out DA)
       have R2 := Lib.hid (R1.out.far_row (g2 := w1.heap.size) (by omega) DA)
       have B2 := Lib.hid (below_setRow (g := w1.heap.size) (B1.out.alloc B1.out.size (.cells Z 34)) B1.out.size DA)
       have Q2 := Lib.hid (show ((w1.alloc (.cells Z 34)).setRow w1.heap.size DA).rangeAt w.heap.size 44 MV from fun j v hv => by
         have e := (World.rangeAt_alloc Q1.out (.cells Z 34)) j v hv
         rw [cell_setRow_other _ _ _ _ (show w.heap.size ≠ w1.heap.size by omega)]
         exact e)
       generalize (w1.alloc (.cells Z 34)).setRow w1.heap.size DA = w2 at T2 R2 B2 Q2 ⊢)
    | refine wpList_load_mid rfl 22 (.tmp 8) rfl w.heap.size 44 rfl MV _ Q2.out hu32 rfl hi32.out ?_
    | (refine wpList_store_mid rfl 22 (.tmp 10) (.tmp 9) rfl w1.heap.size 44 MV.toArray rfl rfl (T2.out.there_at (by rw [SM.out, SD.out]; omega)) (by rw [SM.out]; exact I32.out) AM.out ?_
       have T3 := Lib.hid (PUT.out w2 w1.heap.size T2.out)
       have R3 := Lib.hid (show Blk (w2.setCells w1.heap.size 44 MV) (w.heap.size + 1 + 1) 34 Z from R2.out.grown (only_setCells MV 44 w2 (gb_self w2 (some w1.heap.size))) (by intro h; injection h; omega))
       have B3 := Lib.hid (below_setCells B2.out (show w.heap.size ≤ w1.heap.size from B1.out.size) B2.out.size 44 MV)
       generalize w2.setCells w1.heap.size 44 MV = w3 at T3 R3 B3 ⊢)
    | refine wpList_load_row rfl 34 (.tmp 5) rfl w1.heap.size rfl 34 RA (0, 0) _ T3.out Tryd.underlying34 rfl (by rw [SR.out]; exact I76.out) ?_
    | refine wpList_store_row rfl 34 (.tmp 4) (.tmp 11) rfl (w.heap.size + 1 + 1) RA rfl rfl 34 Z R3.out (by rw [SR.out]; exact I76.out) (by rw [SR.out, ZS.out]) AR.out ?_)
  refine bodyPost_ret (v := .agg RA) (results_cell_row rfl _ _ (w.heap.size + 1 + 1) 34 _ (0, 0) _ rfl (Blk.row R3.out _) Tryd.underlying34 rfl (by rw [SR.out]; exact I76.out)) rfl ⟨rfl, ?_⟩
  exact below_setRow B3.out (by omega) _
end Go.Proofs.YtjibbegdieiknaaDoor

/-
  parcel.First; the law's first question.
-/
namespace Go.Proofs.YtjibbegdieiknaaDoor
open Go.RowKit
set_option maxRecDepth 100000
set_option linter.unusedVariables false
set_option linter.unusedSimpArgs false

theorem results_two_rows {P : Program} {fn : Func} {p q : Tmp} {ty ty' : TypeId} (h : fn.results = #[.cell p ty, .cell q ty']) (tmps : Array Value) (w : World) (g : Nat) (t : TypeId) (cs : Array Value) (fr : Nat × Nat) (d : TypeDesc)
    (g' : Nat) (t' : TypeId) (cs' : Array Value) (fr' : Nat × Nat) (d' : TypeDesc)
    (hp : tmps.getD p undef = .pointer (some ⟨g, 0, none⟩)) (hg : w.heap[g]? = some (.cells cs t fr))
    (hu : P.underlying ty = some d) (hd : (match d with | .struct _ | .array _ _ => true | _ => false) = true) (hi : (P.info? ty).map (·.size) = some cs.size)
    (hp2 : tmps.getD q undef = .pointer (some ⟨g', 0, none⟩)) (hg2 : w.heap[g']? = some (.cells cs' t' fr'))
    (hu2 : P.underlying ty' = some d') (hd2 : (match d' with | .struct _ | .array _ _ => true | _ => false) = true) (hi2 : (P.info? ty').map (·.size) = some cs'.size) :
    (results fn tmps).run P w = .ok (.tuple #[.agg cs, .agg cs']) w := by
  have hl := run_loadVar_row w g t ty cs fr d hg hu hd hi
  have hl2 := run_loadVar_row w g' t' ty' cs' fr' d' hg2 hu2 hd2 hi2
  have hp' : tmps[p]?.getD undef = .pointer (some ⟨g, 0, none⟩) := by simpa using hp
  have hq' : tmps[q]?.getD undef = .pointer (some ⟨g', 0, none⟩) := by simpa using hp2
  simp only [results, h]
  simp [hp', hq', asAddr, hl, hl2]
def firstSaltL : List Int := [56, 118, 44, 247, 245, 89, 52, 179, 77, 23, 154, 230, 164, 200, 12, 173, 204, 187, 127, 10]
/-- The first secrets of a name. -/
def initL (name : List Int) : List Int := hmac firstSaltL name
set_option maxHeartbeats 3200000 in
theorem First_any (A : Option Addr) (c : Nat) (name : List Int) (w : World) (hn : Sl w A c name) (hb : Bytes name) (hl : name.length ≤ 1000) (hS : STab w) (hK : KTab w) :
    Calls Tryd.prog 20 #[.slice A name.length c] w fun r w' => r = .returned (.tuple #[.agg (IV .u8 (lab (initL name) nCl 32)).toArray, .agg (IV .u8 (lab (initL name) nSv 32)).toArray]) ∧ Below w.heap.size w w' := by
  obtain ⟨I, hI⟩ : ∃ I, I = initL name := ⟨_, rfl⟩
  have hIl : I.length = 32 := by rw [hI]; exact hmac_length _ _
  have hIb : Bytes I := by rw [hI]; exact hmac_bytes _ _
  obtain ⟨O1, hO1⟩ : ∃ O, O = lab I nCl 32 := ⟨_, rfl⟩
  obtain ⟨O2, hO2⟩ : ∃ O, O = lab I nSv 32 := ⟨_, rfl⟩
  have L1 := Lib.hid (show O1.length = 32 by rw [hO1]; exact lab_length _ _ _)
  have L2 := Lib.hid (show O2.length = 32 by rw [hO2]; exact lab_length _ _ _)
  have CL := Lib.hid (fun (nm : ByteArray) W (hs : nm.size ≤ 249) (h1 : STab W) (h2 : KTab W) => label_any I nm 32 W hIl hIb (by decide) hs h1 h2)
  have CE := Lib.hid (fun W (h : Sl W A c name) (h1 : STab W) (h2 : KTab W) => Extract_any (some ⟨W.heap.size, 0, none⟩) 20 firstSaltL A c name (W.alloc (.cells (IV .u8 firstSaltL).toArray 5 (20, 21))) (lit_sl firstSaltL _ (by decide) rfl rfl) (by unfold Bytes; decide) (h.alloc _) hb (h1.below ((Below.refl _ _).alloc (Nat.le_refl _) _)) (h2.below ((Below.refl _ _).alloc (Nat.le_refl _) _)) (by decide) (by omega))
  rw [show hmac firstSaltL name = I from hI.symm, show firstSaltL.length = 20 from rfl] at CE
  obtain ⟨IL, hIL⟩ : ∃ IL, IL = IV .u8 I := ⟨_, rfl⟩
  obtain ⟨V1, hV1⟩ : ∃ V, V = IV .u8 O1 := ⟨_, rfl⟩
  obtain ⟨V2, hV2⟩ : ∃ V, V = IV .u8 O2 := ⟨_, rfl⟩
  have SI := Lib.hid (show IL.length = 32 by rw [hIL, IV_length, hIl])
  have S1 := Lib.hid (show V1.length = 32 by rw [hV1, IV_length, L1.out])
  have S2 := Lib.hid (show V2.length = 32 by rw [hV2, IV_length, L2.out])
  have AI := Lib.hid (show IL.toArray.all (·.oneCell') = true by rw [hIL]; simp [IV, Value.oneCell'])
  have A1 := Lib.hid (show V1.toArray.all (·.oneCell') = true by rw [hV1]; simp [IV, Value.oneCell'])
  have A2 := Lib.hid (show V2.toArray.all (·.oneCell') = true by rw [hV2]; simp [IV, Value.oneCell'])
  rw [← hI, ← hO1, ← hO2, ← hV1, ← hV2]
  rw [← hIL] at CL CE
  have I32 := Lib.hid (show (Tryd.prog.info? 22).map (·.size) = some 32 by kernel_rfl)
  have hu32 := Tryd.underlying22
  have hi0 := Lib.hid (show (Tryd.prog.info? 22).map (·.size) = some IL.length by rw [SI.out]; exact I32.out)
  have hi1 := Lib.hid (show (Tryd.prog.info? 22).map (·.size) = some V1.length by rw [S1.out]; exact I32.out)
  have hi2 := Lib.hid (show (Tryd.prog.info? 22).map (·.size) = some V2.length by rw [S2.out]; exact I32.out)
  obtain ⟨Z, hZ⟩ : ∃ Z, Z = (IV .u8 (List.replicate 32 0)).toArray := ⟨_, rfl⟩
  have hz32 : ∀ w, (zeroValue 22).run Tryd.prog w = .ok (.agg Z) w := by rw [hZ]; exact zero32'
  have ZS := Lib.hid (show Z.size = 32 by rw [hZ]; simp [IV])
  have HS := Lib.hid hS
  have HK := Lib.hid hK
  have HN := Lib.hid hn
  have H1 := Lib.hid hO1
  have H2 := Lib.hid hO2
  have HV1 := Lib.hid hV1
  have HV2 := Lib.hid hV2
  obtain ⟨W, hW⟩ : ∃ W, W = (w.alloc (.cells Z 22)).alloc (.cells Z 22) := ⟨_, rfl⟩
  have bA := Lib.hid (show Blk W w.heap.size 22 Z by rw [hW]; exact (Blk.new w _ _).alloc _)
  have bB := Lib.hid (show Blk W (w.heap.size + 1) 22 Z by rw [hW]; exact blk_second w _ _ _)
  have bL := Lib.hid (show Below w.heap.size w W by rw [hW]; exact ((Below.refl _ _).alloc (Nat.le_refl _) _).alloc (by simp) _)
  have hWs : W.heap.size = w.heap.size + 1 + 1 := by rw [hW]; simp
  have C0 := Lib.hid (CE.out W (hn.below bL.out) (hS.below bL.out) (hK.below bL.out))
  have kc := fun (w : World) (C : Array Value) (n c g : Nat) (hg : g = w.heap.size) => Joins.run_convert_bytes_const_at (P := Tryd.prog) w 23 5 C n c g hg Tryd.underlying23 Tryd.underlying5
  clear CE hI hIl hIb hO1 hO2 hIL hV1 hV2 hZ hS hK hn hb
  go_enter Tryd.func20, Tryd.ntmps20
  go_upto_region 1 with fail
  show Code.wp _ _ _ _ ((w.alloc (.cells Z 22)).alloc (.cells Z 22))
  rw [← hW]
  obtain ⟨gB, hgB⟩ : ∃ g, g = w.heap.size + 1 := ⟨_, rfl⟩
  rw [← hgB] at bB hWs ⊢
  have HG := Lib.hid (show w.heap.size < gB ∧ gB < W.heap.size ∧ w.heap.size ≤ gB by omega)
  clear hW hWs hgB
  go_wp2_with (first
    | (go_at_call 34; refine C0.out.mono ?_; rintro e w1 ⟨rfl, b1'⟩
       have b1 := Lib.hid (show Below W.heap.size W w1 from ((Below.refl _ _).alloc (Nat.le_refl _) _).trans (b1'.mono (by simp)))
       clear b1')
    | (refine wpList_store_row rfl 22 (.tmp 4) (.tmp 8) rfl w1.heap.size IL.toArray rfl rfl 22 Z (Blk.new w1 _ _) (by rw [show IL.toArray.size = 32 from SI.out]; exact I32.out) (by rw [show IL.toArray.size = 32 from SI.out, ZS.out]) AI.out ?_
       have T2 := Lib.hid (Blk.row (Blk.new w1 22 Z) IL.toArray)
       have B2 := Lib.hid (below_setRow (g := w1.heap.size) (b1.out.alloc b1.out.size (.cells Z 22)) b1.out.size IL.toArray)
       generalize (w1.alloc (.cells Z 22)).setRow w1.heap.size IL.toArray = w2 at T2 B2 ⊢))
  obtain ⟨g4, hg4⟩ : ∃ g, g = w1.heap.size := ⟨_, rfl⟩
  rw [← hg4] at T2 ⊢
  have hg4B : gB < g4 := by have h1 := HG.out; have h2 := b1.out.size; omega
  have HG4 := Lib.hid hg4B
  clear hg4 hg4B
  obtain ⟨W0, hW0⟩ : ∃ W0, W0 = w2.drew := ⟨_, rfl⟩
  have b0 : Below W.heap.size W W0 := by rw [hW0]; exact B2.out.drew
  have k0 : Blk W0 g4 22 IL.toArray := by rw [hW0]; exact T2.out
  have a0 := bA.out.below b0 bA.out.lt
  have c0 := bB.out.below b0 bB.out.lt
  have l0 : Below w.heap.size w W0 := bL.out.trans (b0.mono bL.out.size)
  have C1 := Lib.hid (show Calls Tryd.prog 22 #[.agg IL.toArray, .string { data := #[99, 108, 105, 101, 110, 116, 32, 105, 110] }, .int .i64 32] W0 (fun r w' => ∃ A' c', r = .returned (.slice A' 32 c') ∧ Own w' W0.heap.size A' c' O1 ∧ Below W0.heap.size W0 w') by rw [H1.out]; exact CL.out nCl W0 (by decide) (HS.out.below l0) (HK.out.below l0))
  have C2 := Lib.hid (fun w1 (h : Below W0.heap.size W0 w1) => show Calls Tryd.prog 22 #[.agg IL.toArray, .string { data := #[115, 101, 114, 118, 101, 114, 32, 105, 110] }, .int .i64 32] w1 (fun r w' => ∃ A' c', r = .returned (.slice A' 32 c') ∧ Own w' w1.heap.size A' c' O2 ∧ Below w1.heap.size w1 w') by rw [H2.out]; exact CL.out nSv w1 (by decide) (HS.out.below (l0.trans (h.mono l0.size))) (HK.out.below (l0.trans (h.mono l0.size))))
  have s0 : W0.rangeAt g4 0 IL := k0.range
  refine wp_region_held_drew (S := fun w' => w'.rangeAt g4 0 IL) (by kernel_rfl) (by rw [← hW0]; exact s0) (fun _ => ?_)
  rw [← hW0]
  have T0 := Lib.hid k0
  have A0 := Lib.hid a0
  have C0' := Lib.hid c0
  have L0 := Lib.hid l0
  clear hW0 T2 B2 b1 bA bB bL CL C0 HS HK H1 H2 b0 k0 a0 c0 l0
  refine wpAnyH_take (i := 0) (oi := ⟨_, _, _, _, _, _⟩) rfl (by kernel_rfl) (by kernel_rfl) (by kernel_rfl) (fun _ _ _ h => h) (yieldsIf_load_mid (by rfl) 22 (.tmp 4) rfl g4 0 rfl IL _ (fun w h => h) hu32 rfl hi0.out) s0 ?_
  simp only [Act.put, List.setIfInBounds_toArray, List.set_cons_zero, List.set_cons_succ]
  refine wpAnyH_take (i := 4) (oi := ⟨_, _, _, _, _, _⟩) rfl (by kernel_rfl) (by kernel_rfl) (by kernel_rfl) (fun _ _ _ h => h) (yieldsIf_load_mid (by rfl) 22 (.tmp 4) rfl g4 0 rfl IL _ (fun w h => h) hu32 rfl hi0.out) s0 ?_
  simp only [Act.put, List.setIfInBounds_toArray, List.set_cons_zero, List.set_cons_succ]
  refine wpAnyH_ready (rs := [1]) (by kernel_rfl) (by simp) ?_
  refine AllReadyH.cons rfl (fun K hK => ?_) AllReadyH.nil
  go_simp
  refine C1.out.mono ?_
  rintro e x1 ⟨D1, d1, rfl, o1, b1⟩
  obtain ⟨g1, hD1, hl1, hm1⟩ := o1.form (by rw [L1.out]; decide)
  subst hD1
  have s1 : x1.rangeAt g4 0 IL := (T0.out.below b1 T0.out.lt).range
  have r1 : x1.rangeAt g1 0 V1 := by rw [HV1.out]; exact own_range o1
  refine hK.out _ _ s1 (fun _ => ?_)
  clear hK K
  refine wpAnyH_take (i := 2) (oi := ⟨_, _, _, _, _, _⟩) rfl (by kernel_rfl) (by kernel_rfl) (by kernel_rfl) (fun _ _ _ h => h) (yields_arrayAt (r := .pointer (some ⟨g1, 0, none⟩)) (by rfl) 22 (.tmp 10) rfl (fun w => run_arrayAt (P := Tryd.prog) (w := w) 22 5 32 (some ⟨g1, 0, none⟩) 32 d1 Tryd.underlying22 (Nat.le_refl _))) s1 ?_
  simp only [Act.put, List.setIfInBounds_toArray, List.set_cons_zero, List.set_cons_succ]
  refine wpAnyH_and (T := fun w' => w'.rangeAt g1 0 V1) _ _ _ _ ?_
  refine wpAnyH_take (i := 3) (oi := ⟨_, _, _, _, _, _⟩) rfl (by kernel_rfl) (by kernel_rfl) (by kernel_rfl) (fun _ _ _ h => h) (yieldsIf_load_mid (by rfl) 22 (.tmp 11) rfl g1 0 rfl V1 _ (fun w h => h.2) hu32 rfl hi1.out) ⟨s1, r1⟩ ?_
  simp only [Act.put, List.setIfInBounds_toArray, List.set_cons_zero, List.set_cons_succ]
  refine wpAnyH_ready (rs := [5]) (by kernel_rfl) (by simp) ?_
  refine AllReadyH.cons rfl (fun K hK => ?_) AllReadyH.nil
  go_simp
  refine (C2.out x1 b1).mono ?_
  rintro e x2 ⟨D2, d2, rfl, o2, b2⟩
  obtain ⟨g2, hD2, hl2, hm2⟩ := o2.form (by rw [L2.out]; decide)
  subst hD2
  have hb12 : Below W0.heap.size W0 x2 := b1.trans (b2.mono b1.size)
  have s2 : x2.rangeAt g4 0 IL := (T0.out.below hb12 T0.out.lt).range
  have r2 : x2.rangeAt g1 0 V1 := range_grown r1 (only_of_below b2 none) hm1 (by simp)
  have q2 : x2.rangeAt g2 0 V2 := by rw [HV2.out]; exact own_range o2
  refine hK.out _ _ ⟨s2, r2⟩ (fun _ => ?_)
  clear hK K
  refine wpAnyH_take (i := 6) (oi := ⟨_, _, _, _, _, _⟩) rfl (by kernel_rfl) (by kernel_rfl) (by kernel_rfl) (fun _ _ _ h => h) (yields_arrayAt (r := .pointer (some ⟨g2, 0, none⟩)) (by rfl) 22 (.tmp 14) rfl (fun w => run_arrayAt (P := Tryd.prog) (w := w) 22 5 32 (some ⟨g2, 0, none⟩) 32 d2 Tryd.underlying22 (Nat.le_refl _))) ⟨s2, r2⟩ ?_
  simp only [Act.put, List.setIfInBounds_toArray, List.set_cons_zero, List.set_cons_succ]
  refine wpAnyH_and (T := fun w' => w'.rangeAt g2 0 V2) _ _ _ _ ?_
  refine wpAnyH_take (i := 7) (oi := ⟨_, _, _, _, _, _⟩) rfl (by kernel_rfl) (by kernel_rfl) (by kernel_rfl) (fun _ _ _ h => h) (yieldsIf_load_mid (by rfl) 22 (.tmp 15) rfl g2 0 rfl V2 _ (fun w h => h.2) hu32 rfl hi2.out) ⟨⟨s2, r2⟩, q2⟩ ?_
  simp only [Act.put, List.setIfInBounds_toArray, List.set_cons_zero, List.set_cons_succ]
  have a2 := A0.out.below hb12 A0.out.lt
  have c2 := C0'.out.below hb12 C0'.out.lt
  have BL2 := Lib.hid (L0.out.trans (hb12.mono L0.out.size))
  have hW0s := C0'.out.lt
  have hx1 := b1.size
  have h4 := T0.out.lt
  have hG := HG.out
  have hG4 := HG4.out
  refine wpAnyH_ready (rs := [8]) (by kernel_rfl) (by simp) ?_
  refine AllReadyH.cons rfl (fun K hK => ?_) AllReadyH.nil
  rw [if_pos (by rfl)]
  have e1 : V1.toArray.toList.length = Z.size := by rw [ZS.out]; exact S1.out
  refine wp_store_mid 22 (.tmp 2) (.tmp 12) rfl w.heap.size 0 V1.toArray rfl rfl (Blk.there_ a2 (by rw [ZS.out]; exact Nat.le_of_eq S1.out)) (by rw [show V1.toArray.size = 32 from S1.out]; exact I32.out) A1.out ?_
  have a3 := a2.setAll e1
  have c3 : Blk (x2.setCells w.heap.size 0 V1.toArray.toList) gB 22 Z := c2.grown (only_setCells _ _ _ (gb_self x2 (some w.heap.size))) (by intro h; injection h; omega)
  have s3 := World.rangeAt_setCells_apart s2 w.heap.size 0 V1.toArray.toList (.inl (by omega))
  have r3 := World.rangeAt_setCells_apart r2 w.heap.size 0 V1.toArray.toList (.inl (by omega))
  have q3 := World.rangeAt_setCells_apart q2 w.heap.size 0 V1.toArray.toList (.inl (by omega))
  have BL3 := Lib.hid (below_setCells BL2.out (Nat.le_refl _) BL2.out.size 0 V1.toArray.toList)
  refine hK.out _ _ ⟨⟨s3, r3⟩, q3⟩ (fun _ => ?_)
  clear hK K
  refine wpAnyH_ready (rs := [9]) (by kernel_rfl) (by simp) ?_
  refine AllReadyH.cons rfl (fun K hK => ?_) AllReadyH.nil
  rw [if_pos (by rfl)]
  generalize x2.setCells w.heap.size 0 V1.toArray.toList = x3 at a3 c3 s3 r3 q3 BL3 ⊢
  have e2 : V2.toArray.toList.length = Z.size := by rw [ZS.out]; exact S2.out
  refine wp_store_mid 22 (.tmp 3) (.tmp 16) rfl gB 0 V2.toArray rfl rfl (Blk.there_ c3 (by rw [ZS.out]; exact Nat.le_of_eq S2.out)) (by rw [show V2.toArray.size = 32 from S2.out]; exact I32.out) A2.out ?_
  have c4 := c3.setAll e2
  have a4 : Blk (x3.setCells gB 0 V2.toArray.toList) w.heap.size 22 V1.toArray.toList.toArray := a3.grown (only_setCells _ _ _ (gb_self x3 (some gB))) (by intro h; injection h; omega)
  have s4 := World.rangeAt_setCells_apart s3 gB 0 V2.toArray.toList (.inl (by omega))
  have r4 := World.rangeAt_setCells_apart r3 gB 0 V2.toArray.toList (.inl (by omega))
  have q4 := World.rangeAt_setCells_apart q3 gB 0 V2.toArray.toList (.inl (by omega))
  have BL4 := Lib.hid (below_setCells BL3.out (show w.heap.size ≤ gB by omega) BL3.out.size 0 V2.toArray.toList)
  refine hK.out _ _ ⟨⟨s4, r4⟩, q4⟩ (fun _ => ?_)
  clear hK K
  generalize x3.setCells gB 0 V2.toArray.toList = x4 at a4 c4 s4 r4 q4 BL4 ⊢
  refine wpAnyH_done (by kernel_rfl) ?_ _
  have A4 := Lib.hid a4
  have C4 := Lib.hid c4
  clear s0 s1 s2 s3 s4 r1 r2 r3 r4 q2 q3 q4 a2 a3 a4 c2 c3 c4 o1 o2 b1 b2 hb12
  go_wp2_with fail
  exact bodyPost_ret (v := .tuple #[.agg V1.toArray, .agg V2.toArray]) (results_two_rows rfl _ _ w.heap.size 22 _ (0, 0) _ gB 22 _ (0, 0) _ rfl A4.out Tryd.underlying22 rfl (by rw [show V1.toArray.size = 32 from S1.out]; exact I32.out) rfl C4.out Tryd.underlying22 rfl (by rw [show V2.toArray.size = 32 from S2.out]; exact I32.out)) rfl ⟨rfl, BL4.out⟩
end Go.Proofs.YtjibbegdieiknaaDoor
