/-
  frame.Read of a Stream or a Datagram that goes up to the end.
-/
import Derived.Test.YtfimngmpkckcdaaDoorFrameP
import Derived.Deep.RegionWith
namespace Go.Proofs.YtfimngmpkckcdaaDoor
open Go.RowKit
set_option linter.unusedVariables false
def set9 (w : World) (g : Nat) (v0 v1 v2 v3 v4 v5 v6 v7 v8 : Value) : World :=
  ((((((((w.setCell ⟨g, 0, none⟩ v0).setCell ⟨g, 1, none⟩ v1).setCell ⟨g, 2, none⟩ v2).setCell ⟨g, 3, none⟩ v3).setCell ⟨g, 4, none⟩ v4).setCell ⟨g, 5, none⟩ v5).setCell ⟨g, 6, none⟩ v6).setCell ⟨g, 7, none⟩ v7).setCell ⟨g, 8, none⟩ v8
theorem set9_blk {w : World} {g : Nat} {T : TypeId} {c0 c1 c2 c3 c4 c5 c6 c7 c8 : Value} (k : Blk w g T #[c0, c1, c2, c3, c4, c5, c6, c7, c8]) (v0 v1 v2 v3 v4 v5 v6 v7 v8 : Value) : Blk (set9 w g v0 v1 v2 v3 v4 v5 v6 v7 v8) g T #[v0, v1, v2, v3, v4, v5, v6, v7, v8] := by
  have a0 : Blk _ g T #[v0, c1, c2, c3, c4, c5, c6, c7, c8] := Blk.set_ k 0 v0
  have a1 : Blk _ g T #[v0, v1, c2, c3, c4, c5, c6, c7, c8] := Blk.set_ a0 1 v1
  have a2 : Blk _ g T #[v0, v1, v2, c3, c4, c5, c6, c7, c8] := Blk.set_ a1 2 v2
  have a3 : Blk _ g T #[v0, v1, v2, v3, c4, c5, c6, c7, c8] := Blk.set_ a2 3 v3
  have a4 : Blk _ g T #[v0, v1, v2, v3, v4, c5, c6, c7, c8] := Blk.set_ a3 4 v4
  have a5 : Blk _ g T #[v0, v1, v2, v3, v4, v5, c6, c7, c8] := Blk.set_ a4 5 v5
  have a6 : Blk _ g T #[v0, v1, v2, v3, v4, v5, v6, c7, c8] := Blk.set_ a5 6 v6
  have a7 : Blk _ g T #[v0, v1, v2, v3, v4, v5, v6, v7, c8] := Blk.set_ a6 7 v7
  exact Blk.set_ a7 8 v8
theorem set9_only {w : World} {g : Nat} (v0 v1 v2 v3 v4 v5 v6 v7 v8 : Value) : w.grownBy (set9 w g v0 v1 v2 v3 v4 v5 v6 v7 v8) (some g) := by
  have st : ∀ {a b : World} (i : Nat) (u : Value), a.grownBy b (some g) → a.grownBy (b.setCell ⟨g, i, none⟩ u) (some g) := fun i u h => only_set h rfl u
  unfold set9
  refine st _ _ ?_
  refine st _ _ ?_
  refine st _ _ ?_
  refine st _ _ ?_
  refine st _ _ ?_
  refine st _ _ ?_
  refine st _ _ ?_
  refine st _ _ ?_
  exact gset
set_option maxHeartbeats 1600000 in
theorem Read_E (k t : Int) (fin : Bool) (hk : KE k t fin) (A : Option Addr) (c : Nat) (p : List Int) (w : World) (hs : Sl w A c p) (hb : Bytes p) (hl : p.length ≤ 70368744177664) (p0 p1 : List Int) (N1 : Int)
    (h0 : numL p 0 = p0 ∧ numE p 0 = 0 ∧ numN p 0 = t) (hv : vleast p = true) (h8 : k = 8 → numL p0 0 = p1 ∧ numE p0 0 = 0 ∧ numN p0 0 = N1) (h48 : k = 48 → p1 = p0 ∧ N1 = 0)
    (b1 : 0 ≤ N1 ∧ N1 ≤ 4611686018427387903) (hp1 : p1.length ≤ 1000) :
    Calls Tryd.prog 7 #[.slice A p.length c] w fun r w' => ∃ D d A' c', r = .returned (.tuple #[.agg (FC k N1 0 0 0 fin D p1.length d none 0 0 none 0 0), .slice A' 0 c', .int .i64 0]) ∧ Own w' w.heap.size A' c' [] ∧ Own w' w.heap.size D d p1 ∧ Below w.heap.size w w' := by
  have C1 := fun W (hb' : Below w.heap.size w W) => read_E k t fin hk A c p W (hs.below hb') hb hl p0 p1 N1 h0 hv h8 h48 b1 hp1
  have HC1 := Lib.hid C1
  have CC := fun (A' : Option Addr) (c' : Nat) (W : World) (hr : Rd W A' []) (hn : A' = none → ([] : List Int) = [] ∧ c' = 0) => clone_any A' c' [] W hr (by simp) hn
  have HCC := Lib.hid CC
  clear C1 CC h0 hv h8 h48 b1 hs hb hl
  go_enter Tryd.func7, Tryd.ntmps7
  go_wp2_with fail
  have ba : Below w.heap.size w (w.alloc (.cells #[.int .u64 0, .int .u64 0, .int .u64 0, .int .u64 0, .int .u64 0, .bool false, .slice none 0 0, .slice none 0 0, .slice none 0 0] 28)) := (Below.refl _ _).alloc (Nat.le_refl _) _
  have KR : Blk (w.alloc (.cells #[.int .u64 0, .int .u64 0, .int .u64 0, .int .u64 0, .int .u64 0, .bool false, .slice none 0 0, .slice none 0 0, .slice none 0 0] 28)) w.heap.size 28 (F0 0) := Blk.new w _ _
  obtain ⟨gR, hgR⟩ : ∃ g, g = w.heap.size := ⟨_, rfl⟩
  rw [← hgR] at KR
  rw [show w.heap.size = gR from hgR.symm]
  have hgR' : w.heap.size ≤ gR := by omega
  clear hgR
  generalize (w.alloc (.cells #[.int .u64 0, .int .u64 0, .int .u64 0, .int .u64 0, .int .u64 0, .bool false, .slice none 0 0, .slice none 0 0, .slice none 0 0] 28)) = w1 at ba KR ⊢
  refine (HC1.out w1 ba).mono ?_
  rintro e w2 ⟨D, d, A1, c1, rfl, sl, oD, b2⟩
  unfold FC
  obtain ⟨gF, hgF⟩ : ∃ g, g = w2.heap.size := ⟨_, rfl⟩
  have bb : Below w2.heap.size w2 (w2.alloc (.cells #[.int .u64 k, .int .u64 N1, .int .u64 0, .int .u64 0, .int .u64 0, .bool fin, .slice D p1.length d, .slice none 0 0, .slice none 0 0] 28)) := (Below.refl _ _).alloc (Nat.le_refl _) _
  have KF : Blk (w2.alloc (.cells #[.int .u64 k, .int .u64 N1, .int .u64 0, .int .u64 0, .int .u64 0, .bool fin, .slice D p1.length d, .slice none 0 0, .slice none 0 0] 28)) gF 28 (FC k N1 0 0 0 fin D p1.length d none 0 0 none 0 0) := by rw [hgF]; exact Blk.new w2 _ _
  have KR3 := (KR.below b2 KR.lt).below bb (KR.below b2 KR.lt).lt
  have hrd : Rd (w2.alloc (.cells #[.int .u64 k, .int .u64 N1, .int .u64 0, .int .u64 0, .int .u64 0, .bool fin, .slice D p1.length d, .slice none 0 0, .slice none 0 0] 28)) A1 [] := Rd.below (Reads.more sl.rd b2.size) bb
  have oD3 := (oD.below bb).base_le ba.size
  have BL3 := (ba.trans (b2.mono ba.size)).trans (bb.mono (ba.trans (b2.mono ba.size)).size)
  have hnil : A1 = none → ([] : List Int) = [] ∧ c1 = 0 := fun e => ⟨rfl, sl.nil e⟩
  have hFR : gF ≠ gR := by have := KR.lt; have := b2.size; omega
  clear sl b2 KR bb oD
  go_wp2_with fail
  rw [show w2.heap.size = gF from hgF.symm]
  clear hgF
  generalize (w2.alloc (.cells #[.int .u64 k, .int .u64 N1, .int .u64 0, .int .u64 0, .int .u64 0, .bool fin, .slice D p1.length d, .slice none 0 0, .slice none 0 0] 28)) = w3 at KF KR3 hrd BL3 oD3 ⊢
  have C9 := HCC.out A1 c1 w3.drew hrd.drew hnil
  have H9 := Lib.hid C9
  have k0 := KF.cell 0
  have k1 := KF.cell 1
  have k2 := KF.cell 2
  have k3 := KF.cell 3
  have k4 := KF.cell 4
  have k5 := KF.cell 5
  have k6 := KF.cell 6
  have k7 := KF.cell 7
  have k8 := KF.cell 8
  simp [FC] at k0 k1 k2 k3 k4 k5 k6 k7 k8
  have HKF := Lib.hid (show Blk w3.drew gF 28 (FC k N1 0 0 0 fin D p1.length d none 0 0 none 0 0) from KF)
  have HKR := Lib.hid (show Blk w3.drew gR 28 (F0 0) from KR3)
  have HBL := Lib.hid (show Below w.heap.size w w3.drew from BL3.drew)
  have HN := Lib.hid hnil
  have HOD := Lib.hid (show Own w3.drew w.heap.size D d p1 from oD3)
  clear C9 KF KR3 hrd BL3 hnil oD3
  go_wp2_with fail
  have KS := Lib.hid (show ∀ w', Blk w' gF 28 (FC k N1 0 0 0 fin D p1.length d none 0 0 none 0 0) → (w'.cell? ⟨gF, 0, none⟩ = some (.int .u64 k) ∧ w'.cell? ⟨gF, 1, none⟩ = some (.int .u64 N1) ∧ w'.cell? ⟨gF, 2, none⟩ = some (.int .u64 0) ∧ w'.cell? ⟨gF, 3, none⟩ = some (.int .u64 0) ∧ w'.cell? ⟨gF, 4, none⟩ = some (.int .u64 0) ∧ w'.cell? ⟨gF, 5, none⟩ = some (.bool fin) ∧ w'.cell? ⟨gF, 6, none⟩ = some (.slice D p1.length d) ∧ w'.cell? ⟨gF, 7, none⟩ = some (.slice none 0 0) ∧ w'.cell? ⟨gF, 8, none⟩ = some (.slice none 0 0)) from fun w' kb => ⟨kb.cell 0, kb.cell 1, kb.cell 2, kb.cell 3, kb.cell 4, kb.cell 5, kb.cell 6, kb.cell 7, kb.cell 8⟩)
  refine wp_region_held_drew (S := fun w' => (w'.cell? ⟨gF, 0, none⟩ = some (.int .u64 k) ∧ w'.cell? ⟨gF, 1, none⟩ = some (.int .u64 N1) ∧ w'.cell? ⟨gF, 2, none⟩ = some (.int .u64 0) ∧ w'.cell? ⟨gF, 3, none⟩ = some (.int .u64 0) ∧ w'.cell? ⟨gF, 4, none⟩ = some (.int .u64 0) ∧ w'.cell? ⟨gF, 5, none⟩ = some (.bool fin) ∧ w'.cell? ⟨gF, 6, none⟩ = some (.slice D p1.length d) ∧ w'.cell? ⟨gF, 7, none⟩ = some (.slice none 0 0) ∧ w'.cell? ⟨gF, 8, none⟩ = some (.slice none 0 0))) (by kernel_rfl) (KS.out _ HKF.out) (fun hHeld => ?_)
  refine wpAnyH_take (i := 0) (oi := ⟨_, _, _, _, _, _⟩) (v := .agg #[.int .u64 k, .int .u64 N1, .int .u64 0, .int .u64 0, .int .u64 0, .bool fin, .slice D p1.length d, .slice none 0 0, .slice none 0 0]) rfl (by kernel_rfl) (by kernel_rfl) (by kernel_rfl) (fun _ _ _ h => h) (Or.inl ⟨by rfl, fun w' hS => by obtain ⟨h0, h1, h2, h3, h4, h5, h6, h7, h8⟩ := hS; go_simp⟩) hHeld ?_
  simp only [Act.put, List.setIfInBounds_toArray, List.set_cons_zero, List.set_cons_succ]
  refine wpAnyH_take (i := 1) (oi := ⟨_, _, _, _, _, _⟩) (v := .slice A1 0 c1) rfl (by kernel_rfl) (by kernel_rfl) (by kernel_rfl) (fun _ _ _ h => h) (Or.inl ⟨by rfl, fun w' hS => by go_simp⟩) hHeld ?_
  simp only [Act.put, List.setIfInBounds_toArray, List.set_cons_zero, List.set_cons_succ]
  refine wpAnyH_ready (rs := [2]) (by kernel_rfl) (by simp) ?_
  refine AllReadyH.cons rfl (fun K hK => ?_) AllReadyH.nil
  go_simp
  refine H9.out.mono ?_
  rintro e wa ⟨Aa, ca, rfl, oa, ba'⟩
  have HKa := HKF.out.below ba' HKF.out.lt
  have HRa := HKR.out.below ba' HKR.out.lt
  refine hK.out _ _ (KS.out _ HKa) (fun hHeld1 => ?_)
  clear hK K
  have q0 := HRa.cell 0
  have q1 := HRa.cell 1
  have q2 := HRa.cell 2
  have q3 := HRa.cell 3
  have q4 := HRa.cell 4
  have q5 := HRa.cell 5
  have q6 := HRa.cell 6
  have q7 := HRa.cell 7
  have q8 := HRa.cell 8
  have f0 := HRa.frozen 0
  have f1 := HRa.frozen 1
  have f2 := HRa.frozen 2
  have f3 := HRa.frozen 3
  have f4 := HRa.frozen 4
  have f5 := HRa.frozen 5
  have f6 := HRa.frozen 6
  have f7 := HRa.frozen 7
  have f8 := HRa.frozen 8
  simp only [F0, FC] at q0 q1 q2 q3 q4 q5 q6 q7 q8
  refine wpAnyH_ready (rs := [3]) (by kernel_rfl) (by simp) ?_
  refine AllReadyH.cons rfl (fun K hK => ?_) AllReadyH.nil
  go_simp
  refine hK.out _ (set9 wa gR (.int .u64 k) (.int .u64 N1) (.int .u64 0) (.int .u64 0) (.int .u64 0) (.bool fin) (.slice D p1.length d) (.slice none 0 0) (.slice none 0 0)) (KS.out _ (HKa.grown (set9_only _ _ _ _ _ _ _ _ _) (by intro x; injection x with x; exact hFR x))) (fun hHeld2 => ?_)
  clear hK K
  refine wpAnyH_take (i := 4) (oi := ⟨_, _, _, _, _, _⟩) (v := .slice Aa 0 ca) rfl (by kernel_rfl) (by kernel_rfl) (by kernel_rfl) (fun _ _ _ h => h) (Or.inl ⟨by rfl, fun w' hS => by go_simp⟩) hHeld2 ?_
  simp only [Act.put, List.setIfInBounds_toArray, List.set_cons_zero, List.set_cons_succ]
  refine wpAnyH_take (i := 5) (oi := ⟨_, _, _, _, _, _⟩) (v := .int .i64 0) rfl (by kernel_rfl) (by kernel_rfl) (by kernel_rfl) (fun _ _ _ h => h) (Or.inl ⟨by rfl, fun w' hS => by go_simp⟩) hHeld2 ?_
  simp only [Act.put, List.setIfInBounds_toArray, List.set_cons_zero, List.set_cons_succ]
  refine wpAnyH_done (by kernel_rfl) ?_ _
  have K9 := set9_blk (show Blk wa gR 28 #[.int .u64 0, .int .u64 0, .int .u64 0, .int .u64 0, .int .u64 0, .bool false, .slice none 0 0, .slice none 0 0, .slice none 0 0] from HRa) (.int .u64 k) (.int .u64 N1) (.int .u64 0) (.int .u64 0) (.int .u64 0) (.bool fin) (.slice D p1.length d) (.slice none 0 0) (.slice none 0 0)
  have O9 := own_gs (Own.base_le' oa HBL.out.size) HRa (by decide) (@set9_only wa gR (.int .u64 k) (.int .u64 N1) (.int .u64 0) (.int .u64 0) (.int .u64 0) (.bool fin) (.slice D p1.length d) (.slice none 0 0) (.slice none 0 0))
  have OD9 := own_gs (HOD.out.below ba') HRa (by decide) (@set9_only wa gR (.int .u64 k) (.int .u64 N1) (.int .u64 0) (.int .u64 0) (.int .u64 0) (.bool fin) (.slice D p1.length d) (.slice none 0 0) (.slice none 0 0))
  have B9 := below_gs (HBL.out.trans (ba'.mono HBL.out.size)) (@set9_only wa gR (.int .u64 k) (.int .u64 N1) (.int .u64 0) (.int .u64 0) (.int .u64 0) (.bool fin) (.slice D p1.length d) (.slice none 0 0) (.slice none 0 0)) hgR' (HBL.out.trans (ba'.mono HBL.out.size)).size
  have HK9 := Lib.hid K9
  have HO9 := Lib.hid O9
  have HOD9 := Lib.hid OD9
  have HB9 := Lib.hid B9
  clear K9 O9 B9 OD9 hHeld hHeld1 hHeld2 q0 q1 q2 q3 q4 q5 q6 q7 q8 f0 f1 f2 f3 f4 f5 f6 f7 f8 HKa HRa oa ba'
  go_wp2_with fail
  refine bodyPost_ret (results_row_tmp2 rfl _ _ gR 28 _ (0, 0) _ rfl HK9.out Tryd.underlying28 rfl (by kernel_rfl)) rfl ?_
  exact ⟨D, d, Aa, ca, rfl, HO9.out, HOD9.out, HB9.out⟩
end Go.Proofs.YtfimngmpkckcdaaDoor
