/-
  head.Read: the head in front, by value.
-/
import Derived.Test.YtomapklkbfjafaaDoorHeadF
namespace Go.Proofs.YtomapklkbfjafaaDoor
open Go.RowKit
set_option linter.unusedVariables false

theorem below_grown {B : Nat} {a w w' : World} {g : Nat} (h : Below B a w) (hg : w.grownBy w' (some g)) (hB : B ≤ w.heap.size) (hr : B ≤ g) : Below B a w' := h.grown hg hB (by rintro _ ⟨⟩; exact hr)
theorem results_row_tmp3 {P : Program} {fn : Func} {p u v x : Tmp} {ty : TypeId} (h : fn.results = #[.cell p ty, .tmp u, .tmp v, .tmp x]) (tmps : Array Value) (w : World) (g : Nat) (t : TypeId) (cs : Array Value) (fr : Nat × Nat) (d : TypeDesc)
    (hp : tmps.getD p undef = .pointer (some ⟨g, 0, none⟩)) (hg : w.heap[g]? = some (.cells cs t fr))
    (hu : P.underlying ty = some d) (hd : (match d with | .struct _ | .array _ _ => true | _ => false) = true) (hi : (P.info? ty).map (·.size) = some cs.size) :
    (results fn tmps).run P w = .ok (.tuple #[.agg cs, tmps.getD u undef, tmps.getD v undef, tmps.getD x undef]) w := by
  have hl := run_loadVar_row w g t ty cs fr d hg hu hd hi
  have hp' : tmps[p]?.getD undef = .pointer (some ⟨g, 0, none⟩) := by simpa using hp
  simp only [results, h]
  simp [hp', asAddr, hl]

theorem below_set5 {B : Nat} {a w : World} (h : Below B a w) {q : Nat} (hq : B ≤ q) (x0 x1 x2 x3 x4 : Value) : Below B a (set5 w q x0 x1 x2 x3 x4) :=
  ((((h.setCell (p := ⟨q, 0, none⟩) hq x0).setCell (p := ⟨q, 1, none⟩) hq x1).setCell (p := ⟨q, 2, none⟩) hq x2).setCell (p := ⟨q, 3, none⟩) hq x3).setCell (p := ⟨q, 4, none⟩) hq x4
def rdErr (p : List Int) : Int := mustE (hdE p 0) (decide (20 ≤ hdV p 0))
def rdLeft (p : List Int) : List Int := leftV (hdP p 0) (rdErr p)
def rdAt (p : List Int) : Int := (p.length : Int) - (rdLeft p).length

theorem tkL_bytes {p : List Int} (h : Bytes p) (e : Int) (n : Nat) : Bytes (tkL p e n) := by unfold tkL; split; exact h.drop _; exact h
theorem numL_bytes {p : List Int} (h : Bytes p) (e : Int) : Bytes (numL p e) := by unfold numL; split; exact h.drop _; exact h
theorem nmL_bytes {p : List Int} (h : Bytes p) (e : Int) : Bytes (nmL p e) := tkL_bytes (tkL_bytes h _ _) _ _
theorem tkL_len (p : List Int) (e : Int) (n : Nat) : (tkL p e n).length ≤ p.length := by unfold tkL; split <;> simp
theorem lgP6_bytes {p : List Int} (h : Bytes p) (e b : Int) : Bytes (lgP6 p e b) := by
  have h5 : Bytes (lgP5 p e b) := nmL_bytes (nmL_bytes (tkL_bytes h _ _) _) _
  unfold lgP6
  split
  · exact numL_bytes h5 _
  · exact h5
theorem hdV_range {p : List Int} (h : Bytes p) (hl : p.length ≤ 70368744177664) : 0 ≤ hdV p 0 ∧ hdV p 0 < 4611686018427387904 := by
  unfold hdV
  split
  · have h1 := tkL_len p 0 1
    have h2 := tkL_len (hdP1 p 0) (hdE1 p 0) 8
    have h3 : shN (hdP1 p 0) (hdE1 p 0) ≤ p.length := by
      unfold shN leftV shL
      split
      · exact Nat.le_trans h2 h1
      · simp
    omega
  · have h1 := numN_range (lgP6_bytes (tkL_bytes h 0 1) (hdE1 p 0) (byteV p 0)) (lgE6 (hdP1 p 0) (hdE1 p 0) (byteV p 0))
    unfold lgV lnV
    split
    · exact h1
    · omega

set_option maxHeartbeats 1600000 in
theorem Read_no (A : Option Addr) (c : Nat) (p : List Int) (w : World) (h : Sl w A c p) (hb : Bytes p) (hl : p.length ≤ 70368744177664) (hE : rdErr p ≠ 0) :
    Calls Tryd.prog 10 #[.slice A p.length c] w fun r w' => r = .returned (.tuple #[.agg #[.bool false, .int .i64 0, .bool false, .slice none 0 0, .slice none 0 0], .int .i64 0, .int .i64 0, .int .i64 (rdErr p)]) ∧ Below w.heap.size w w' := by
  have C1 := Lib.hid (fun W (hs : Sl W A c p) => New_any A c p W hs hb hl)
  have H := Lib.hid h
  obtain ⟨E, hEE⟩ : ∃ E, E = rdErr p := ⟨_, rfl⟩
  rw [← hEE] at hE ⊢
  have HEE := Lib.hid hEE
  have hz : (E == 0) = false := by simpa using hE
  clear h hb hEE
  go_enter Tryd.func10, Tryd.ntmps10
  go_wp2_with fail
  have b0 : Below w.heap.size w (w.alloc (.cells #[.bool false, .int .i64 0, .bool false, .slice none 0 0, .slice none 0 0] 24)) := (Below.refl _ _).alloc (Nat.le_refl _) _
  refine (C1.out _ (H.out.below b0)).mono ?_
  rintro r w1 ⟨g, rfl, r1, b1⟩
  have hB1 : w.heap.size + 1 ≤ g := by have := r1.le; simpa using this
  have K1 := Lib.hid ((Blk.new w 24 #[.bool false, .int .i64 0, .bool false, .slice none 0 0, .slice none 0 0]).below b1 (by simp))
  have BL1 := Lib.hid (b0.trans (b1.mono (by simp)))
  have CT := Lib.hid (htake_any g _ p 0 w1 r1)
  clear r1 b1 b0 C1
  go_wp2_with fail
  refine CT.out.mono ?_
  rintro r w2 ⟨A2, c2, A3, c3, rfl, o2, o3, r2, g2⟩
  obtain ⟨gh, hgh⟩ : ∃ x, x = w2.heap.size := ⟨_, rfl⟩
  obtain ⟨HV, hHV⟩ : ∃ x : Array Value, x = #[.bool (hdLong p 0), .int .i64 (hdLvl p 0), .bool false, .slice A2 (hdTo p 0).length c2, .slice A3 (hdFr p 0).length c3] := ⟨_, rfl⟩
  have ba : Below w2.heap.size w2 (w2.alloc (.cells HV 24)) := (Below.refl _ _).alloc (Nat.le_refl _) _
  have kh : Blk (w2.alloc (.cells HV 24)) gh 24 HV := by rw [hgh]; exact Blk.new _ _ _
  have hgg : g < gh := by rw [hgh]; exact r2.lt
  have CM := Lib.hid (fun ok => Must_any g _ (hdP p 0) (hdE p 0) ok _ (r2.below ba))
  have k2 := K1.out.grown g2 (by intro h; injection h; omega)
  have K2 := Lib.hid (k2.below ba k2.lt)
  have bl2 := below_grown BL1.out g2 BL1.out.size (by omega)
  have BL2 := Lib.hid (bl2.trans (ba.mono bl2.size))
  have O2 := Lib.hid ((o2.below ba).base_le (show w.heap.size ≤ w1.heap.size from BL1.out.size))
  have O3 := Lib.hid ((o3.below ba).base_le (show w.heap.size ≤ w1.heap.size from BL1.out.size))
  have RD2 := Lib.hid (r2.below ba)
  rw [hHV] at CM K2 BL2 O2 O3 kh RD2
  have KH := Lib.hid kh
  have HGH := Lib.hid hgh.symm
  clear o2 o3 r2 g2 CT K1 BL1 kh ba k2 bl2 hHV HV hgh
  go_wp2_with fail
  rw [HGH.out]
  refine (CM.out _).mono ?_
  rintro r w3 ⟨rfl, r3, g3⟩
  rw [show mustE (hdE p 0) (decide (20 ≤ hdV p 0)) = rdErr p from rfl] at r3
  rw [← HEE.out] at r3
  have CE := Lib.hid (Errno_any g _ (hdP p 0) E w3 r3)
  have K3 := Lib.hid (K2.out.grown g3 (by intro h; injection h; omega))
  have BL3 := Lib.hid (below_grown BL2.out g3 BL2.out.size (by omega))
  clear r3 g3 CM K2 BL2 O2 O3 KH
  go_wp2_with fail
  refine CE.out.mono ?_
  rintro r w4 ⟨rfl, rfl⟩
  go_wp2_with fail
  refine CE.out.mono ?_
  rintro r w4 ⟨rfl, rfl⟩
  have f0 := K3.out.frozen 0
  have f1 := K3.out.frozen 1
  have f2 := K3.out.frozen 2
  have f3 := K3.out.frozen 3
  have f4 := K3.out.frozen 4
  have q0 := K3.out.cell 0
  have q1 := K3.out.cell 1
  have q2 := K3.out.cell 2
  have q3 := K3.out.cell 3
  have q4 := K3.out.cell 4
  go_wp2_with fail
  show bodyPost _ _ _ _ _ (set5 w3 w.heap.size _ _ _ _ _)
  refine bodyPost_ret (results_row_tmp3 rfl _ _ w.heap.size 24 _ (0, 0) _ rfl (set5_blk K3.out _ _ _ _ _) Tryd.underlying24 rfl (by kernel_rfl)) rfl ?_
  exact ⟨rfl, below_set5 BL3.out (Nat.le_refl _) _ _ _ _ _⟩

set_option maxHeartbeats 1600000 in
theorem Read_yes (A : Option Addr) (c : Nat) (p : List Int) (w : World) (h : Sl w A c p) (hb : Bytes p) (hl : p.length ≤ 70368744177664) (hE : rdErr p = 0) :
    Calls Tryd.prog 10 #[.slice A p.length c] w fun r w' => ∃ A1 c1 A2 c2, r = .returned (.tuple #[.agg #[.bool (hdLong p 0), .int .i64 (hdLvl p 0), .bool false, .slice A1 (hdTo p 0).length c1, .slice A2 (hdFr p 0).length c2], .int .i64 (rdAt p), .int .i64 (rdAt p + hdV p 0), .int .i64 0]) ∧
      Own w' w.heap.size A1 c1 (hdTo p 0) ∧ Own w' w.heap.size A2 c2 (hdFr p 0) ∧ Below w.heap.size w w' := by
  have C1 := Lib.hid (fun W (hs : Sl W A c p) => New_any A c p W hs hb hl)
  have H := Lib.hid h
  have HEE := Lib.hid hE
  have hVr := hdV_range hb hl
  obtain ⟨T, hT⟩ : ∃ T, T = rdAt p := ⟨_, rfl⟩
  rw [← hT]
  have HT := Lib.hid hT
  clear h hb hE hT
  go_enter Tryd.func10, Tryd.ntmps10
  go_wp2_with fail
  have b0 : Below w.heap.size w (w.alloc (.cells #[.bool false, .int .i64 0, .bool false, .slice none 0 0, .slice none 0 0] 24)) := (Below.refl _ _).alloc (Nat.le_refl _) _
  refine (C1.out _ (H.out.below b0)).mono ?_
  rintro r w1 ⟨g, rfl, r1, b1⟩
  have hB1 : w.heap.size + 1 ≤ g := by have := r1.le; simpa using this
  have K1 := Lib.hid ((Blk.new w 24 #[.bool false, .int .i64 0, .bool false, .slice none 0 0, .slice none 0 0]).below b1 (by simp))
  have BL1 := Lib.hid (b0.trans (b1.mono (by simp)))
  have CT := Lib.hid (htake_any g _ p 0 w1 r1)
  clear r1 b1 b0 C1
  go_wp2_with fail
  refine CT.out.mono ?_
  rintro r w2 ⟨A2, c2, A3, c3, rfl, o2, o3, r2, g2⟩
  obtain ⟨gh, hgh⟩ : ∃ x, x = w2.heap.size := ⟨_, rfl⟩
  obtain ⟨HV, hHV⟩ : ∃ x : Array Value, x = #[.bool (hdLong p 0), .int .i64 (hdLvl p 0), .bool false, .slice A2 (hdTo p 0).length c2, .slice A3 (hdFr p 0).length c3] := ⟨_, rfl⟩
  have ba : Below w2.heap.size w2 (w2.alloc (.cells HV 24)) := (Below.refl _ _).alloc (Nat.le_refl _) _
  have kh : Blk (w2.alloc (.cells HV 24)) gh 24 HV := by rw [hgh]; exact Blk.new _ _ _
  have hgg : g < gh := by rw [hgh]; exact r2.lt
  have CM := Lib.hid (fun ok => Must_any g _ (hdP p 0) (hdE p 0) ok _ (r2.below ba))
  have k2 := K1.out.grown g2 (by intro h; injection h; omega)
  have K2 := Lib.hid (k2.below ba k2.lt)
  have bl2 := below_grown BL1.out g2 BL1.out.size (by omega)
  have BL2 := Lib.hid (bl2.trans (ba.mono bl2.size))
  have O2 := Lib.hid ((o2.below ba).base_le (show w.heap.size ≤ w1.heap.size from BL1.out.size))
  have O3 := Lib.hid ((o3.below ba).base_le (show w.heap.size ≤ w1.heap.size from BL1.out.size))
  have RD2 := Lib.hid (r2.below ba)
  rw [hHV] at CM K2 BL2 O2 O3 kh RD2
  have KH := Lib.hid kh
  have HGH := Lib.hid hgh.symm
  clear o2 o3 r2 g2 CT K1 BL1 kh ba k2 bl2 hHV HV hgh
  go_wp2_with fail
  rw [HGH.out]
  refine (CM.out _).mono ?_
  rintro r w3 ⟨rfl, r3, g3⟩
  rw [show mustE (hdE p 0) (decide (20 ≤ hdV p 0)) = rdErr p from rfl] at r3
  have hLf : leftV (hdP p 0) 0 = rdLeft p := by rw [rdLeft, HEE.out]
  rw [HEE.out] at r3
  have R3 := Lib.hid r3
  have CE := Lib.hid (Errno_any g _ (hdP p 0) 0 w3 r3)
  have CL := Lib.hid (Left_any g _ (hdP p 0) 0 w3 r3)
  rw [hLf] at CL
  have K3 := Lib.hid (K2.out.grown g3 (by intro h; injection h; omega))
  have BL3 := Lib.hid (below_grown BL2.out g3 BL2.out.size (by omega))
  have KH3 := Lib.hid (KH.out.grown g3 (by intro h; injection h; omega))
  have O4 := Lib.hid (RD2.out.ownGrown O2.out g3)
  have O5 := Lib.hid (RD2.out.ownGrown O3.out g3)
  have hlf : (rdLeft p).length ≤ 70368744177664 := by
    rw [← hLf]; exact r3.small
  have hT0 : -70368744177664 ≤ T ∧ T ≤ 70368744177664 := by rw [HT.out, rdAt]; omega
  clear r3 g3 CM K2 BL2 O2 O3 KH hLf RD2
  go_wp2_with fail
  refine CE.out.mono ?_
  rintro r w4 ⟨rfl, rfl⟩
  go_wp2_with fail
  refine CL.out.mono ?_
  rintro r w4 ⟨A5, c5, rfl, _, rfl⟩
  have hTT : (p.length : Int) - ((rdLeft p).length : Int) = T := HT.out.symm
  have f0 := K3.out.frozen 0
  have f1 := K3.out.frozen 1
  have f2 := K3.out.frozen 2
  have f3 := K3.out.frozen 3
  have f4 := K3.out.frozen 4
  have q0 := K3.out.cell 0
  have q1 := K3.out.cell 1
  have q2 := K3.out.cell 2
  have q3 := K3.out.cell 3
  have q4 := K3.out.cell 4
  have u0 := KH3.out.cell 0
  have u1 := KH3.out.cell 1
  have u2 := KH3.out.cell 2
  have u3 := KH3.out.cell 3
  have u4 := KH3.out.cell 4
  go_wp2_with fail
  show bodyPost _ _ _ _ _ (set5 w3 w.heap.size _ _ _ _ _)
  refine bodyPost_ret (results_row_tmp3 rfl _ _ w.heap.size 24 _ (0, 0) _ rfl (set5_blk K3.out _ _ _ _ _) Tryd.underlying24 rfl (by kernel_rfl)) rfl ?_
  exact ⟨_, _, _, _, rfl, set5_own O4.out K3.out (by decide) _ _ _ _ _, set5_own O5.out K3.out (by decide) _ _ _ _ _, below_set5 BL3.out (Nat.le_refl _) _ _ _ _ _⟩
end Go.Proofs.YtomapklkbfjafaaDoor
