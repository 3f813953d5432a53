/-
  takeLong.
-/
import Derived.Test.YtomapklkbfjafaaDoorHeadD
import Derived.Deep.MidRow
import Derived.Deep.RegionHeld3
namespace Go.Proofs.YtomapklkbfjafaaDoor
open Go.RowKit
set_option linter.unusedVariables false

def lgE1 (e b : Int) : Int := mustE e (lvlOk b)
def lgP2 (p : List Int) (e b : Int) : List Int := tkL p (lgE1 e b) 4
def lgE3 (p : List Int) (e b : Int) : Int := mustE (needE (lgE1 e b) p.length 4) (sameB (tkO p (lgE1 e b) 4) [0, 0, 0, 1])
def lgTo (p : List Int) (e b : Int) : List Int := nmO (lgP2 p e b) (lgE3 p e b)
def lgP4 (p : List Int) (e b : Int) : List Int := nmL (lgP2 p e b) (lgE3 p e b)
def lgE4 (p : List Int) (e b : Int) : Int := nmE (lgP2 p e b) (lgE3 p e b)
def lgFr (p : List Int) (e b : Int) : List Int := nmO (lgP4 p e b) (lgE4 p e b)
def lgP5 (p : List Int) (e b : Int) : List Int := nmL (lgP4 p e b) (lgE4 p e b)
def lgE5 (p : List Int) (e b : Int) : Int := nmE (lgP4 p e b) (lgE4 p e b)
def lgP6 (p : List Int) (e b : Int) : List Int := if lvl b = 0 then numL (lgP5 p e b) (lgE5 p e b) else lgP5 p e b
def lgE6 (p : List Int) (e b : Int) : Int := if lvl b = 0 then mustE (numE (lgP5 p e b) (lgE5 p e b)) (numN (lgP5 p e b) (lgE5 p e b) == 0) else lgE5 p e b
def lgV (p : List Int) (e b : Int) : Int := lnV (lgP6 p e b) (lgE6 p e b)
def lgP (p : List Int) (e b : Int) : List Int := numL (lgP6 p e b) (lgE6 p e b)
def lgE (p : List Int) (e b : Int) : Int := lnE (lgP6 p e b) (lgE6 p e b)

theorem set1_own {w : World} {base c' : Nat} {A : Option Addr} {l : List Int} (o : Own w base A c' l) {q i : Nat} {t : TypeId} {cs : Array Value} (k : Blk w q t cs) (ht : 5 ≠ t) (a : Value) : Own (w.setCell ⟨q, i, none⟩ a) base A c' l :=
  o.grown (only_set (only_refl w (some q)) (p := ⟨q, i, none⟩) rfl a) (fun g cur k' e => by injection e with e; subst e; exact absurd rfl (k'.ne_ k ht))
theorem Blk.range5 {w : World} {g : Nat} {t : TypeId} {a b c d e : Value} (h : Blk w g t #[a, b, c, d, e]) : w.rangeAt g 0 [a, b, c, d, e] := fun j v hv => by
  rw [Nat.zero_add, h.cell]
  simpa using hv
theorem set5_far {w : World} {g h : Nat} {t : TypeId} {cs : Array Value} (k : Blk w g t cs) (hne : g ≠ h) (a b c d e : Value) : Blk (set5 w h a b c d e) g t cs :=
  ((((k.far (p := ⟨h, 0, none⟩) hne a).far (p := ⟨h, 1, none⟩) hne b).far (p := ⟨h, 2, none⟩) hne c).far (p := ⟨h, 3, none⟩) hne d).far (p := ⟨h, 4, none⟩) hne e
theorem own_lit4 (w : World) (l : List Int) {base : Nat} (hb : base ≤ w.heap.size) (hm : l.length ≤ 1000) : Own (w.alloc (.cells (U8 l).toArray 5)) base (some ⟨w.heap.size, 0, none⟩) l.length l :=
  Own.new (Blk.new w _ _) hb (by unfold maxLen; omega)

set_option maxHeartbeats 1600000 in
theorem takeLong_any (g B : Nat) (p : List Int) (e b : Int) (w : World) (h : Rdr w g B p e) (hb : 0 ≤ b ∧ b < 256) :
    Calls Tryd.prog 33 #[.pointer (some ⟨g, 0, none⟩), .int .u8 b] w fun r w' => ∃ A c A' c', r = .returned (.tuple #[.agg #[.bool true, .int .i64 (lvl b), .bool false, .slice A (lgTo p e b).length c, .slice A' (lgFr p e b).length c'], .int .i64 (lgV p e b)]) ∧
      Own w' w.heap.size A c (lgTo p e b) ∧ Own w' w.heap.size A' c' (lgFr p e b) ∧ Rdr w' g B (lgP p e b) (lgE p e b) ∧ w.grownBy w' (some g) := by
  have C1 := Lib.hid (fun W (hr : Rdr W g B p e) => takeLevel_any g B p e b W hr hb)
  have hlt := h.lt
  have H := Lib.hid h
  have hlv : lvl b = 0 ∨ lvl b = 1 := by unfold lvl; split <;> simp
  obtain ⟨v, hv⟩ : ∃ v, v = lvl b := ⟨_, rfl⟩
  rw [← hv] at hlv C1 ⊢
  have HV := Lib.hid hv
  obtain ⟨To, hTo⟩ : ∃ To, To = lgTo p e b := ⟨_, rfl⟩
  obtain ⟨Fr, hFr⟩ : ∃ Fr, Fr = lgFr p e b := ⟨_, rfl⟩
  rw [← hTo, ← hFr]
  have HFr := Lib.hid hFr
  have HTo := Lib.hid hTo
  clear h hv hTo hFr
  go_enter Tryd.func33, Tryd.ntmps33
  go_wp2_with fail
  refine (C1.out _ (H.out.below ((Below.refl _ _).alloc (Nat.le_refl _) _))).mono ?_
  rintro r w1 ⟨rfl, r1, g1⟩
  rw [show mustE e (lvlOk b) = lgE1 e b from rfl] at r1
  have R1 := Lib.hid r1
  have G1 := Lib.hid (only_then (only_below ((Below.refl _ _).alloc (Nat.le_refl _) _) (some g)) g1)
  have K1 := Lib.hid ((Blk.new w 24 #[.bool false, .int .i64 0, .bool false, .slice none 0 0, .slice none 0 0]).grown g1 (by intro h; injection h; omega))
  clear r1 g1 C1
  have C2 := (fun W (hr : Rdr W g B p (lgE1 e b)) => RBytes_any g B p (lgE1 e b) 4 W hr (by omega))
  rw [show ((4 : Nat) : Int) = 4 from rfl] at C2
  have C2 := Lib.hid C2
  go_wp2_with fail
  obtain ⟨gh, hgh⟩ : ∃ x, x = w1.heap.size := ⟨_, rfl⟩
  have Kh := Blk.new w1 24 #[.bool true, .int .i64 v, .bool false, .slice none 0 0, .slice none 0 0]
  have b1 : Below w1.heap.size w1 (w1.alloc (.cells #[.bool true, .int .i64 v, .bool false, .slice none 0 0, .slice none 0 0] 24)) := (Below.refl _ _).alloc (Nat.le_refl _) _
  have hs1 := G1.out.size
  have hk1 := K1.out.lt
  have r2 := R1.out.below b1
  have k2 := K1.out.below b1 hk1
  have g2 := only_then G1.out (only_below b1 (some g))
  rw [← hgh] at Kh hk1 ⊢
  have hgh2 : g < gh := by omega
  have hghw : w.heap.size < gh := by omega
  generalize w1.alloc (.cells #[.bool true, .int .i64 v, .bool false, .slice none 0 0, .slice none 0 0] 24) = w2 at Kh r2 k2 g2 ⊢
  have HGH := Lib.hid hgh
  clear hgh b1 hs1 R1 K1 G1
  refine (C2.out _ r2).mono ?_
  rintro r w3 ⟨A3, c3, rfl, o3, r3, g3⟩
  rw [show tkL p (lgE1 e b) 4 = lgP2 p e b from rfl] at r3
  obtain ⟨V, hV⟩ : ∃ V, V = tkO p (lgE1 e b) 4 := ⟨_, rfl⟩
  rw [← hV] at o3 ⊢
  have hVb : Bytes V := by
    rw [hV, tkO]
    split
    · exact r2.bytes.take _
    · exact Bytes.nil
  have HVV := Lib.hid hV
  have HVB := Lib.hid hVb
  have O3 := Lib.hid o3
  have R3 := Lib.hid r3
  have Kh3 := Lib.hid (Kh.grown g3 (by intro h; injection h; omega))
  have K3 := Lib.hid (k2.grown g3 (by intro h; injection h; omega))
  have G3 := Lib.hid (only_then g2 g3)
  have CEq := Lib.hid (equal_any A3 (some ⟨w3.heap.size, 0, none⟩) c3 4 V [0, 0, 0, 1] (w3.alloc (.cells (U8 [0, 0, 0, 1]).toArray 5)) ((Rd.of_own o3).alloc _) (Rd.of_own (own_lit4 w3 [0, 0, 0, 1] (Nat.le_refl _) (by decide))) hVb (by unfold Bytes; decide))
  clear hV hVb o3 r3 Kh k2 g2 g3 r2 C2
  go_wp2_with fail
  refine CEq.out.mono ?_
  rintro r w4 ⟨rfl, h4⟩
  have b4 : Below w3.heap.size w3 w4 := by rw [← h4]; exact (Below.refl _ _).alloc (Nat.le_refl _) _
  have CM := Lib.hid (fun ok => Must_any g B (lgP2 p e b) (needE (lgE1 e b) p.length 4) ok w4 (R3.out.below b4))
  have Kh4 := Lib.hid (Kh3.out.below b4 Kh3.out.lt)
  have K4 := Lib.hid (K3.out.below b4 K3.out.lt)
  have G4 := Lib.hid (only_then G3.out (only_below b4 (some g)))
  clear h4 b4 CEq R3 Kh3 K3 G3 O3
  go_wp2_with fail
  refine (CM.out _).mono ?_
  rintro r w5 ⟨rfl, r5, g5⟩
  have e5 : mustE (needE (lgE1 e b) p.length 4) (sameB V [0, 0, 0, 1]) = lgE3 p e b := by rw [lgE3, HVV.out]
  rw [e5] at r5
  have Kh5 := Lib.hid (Kh4.out.grown g5 (by intro h; injection h; omega))
  have K5 := Lib.hid (K4.out.grown g5 (by intro h; injection h; omega))
  have G5 := Lib.hid (only_then G4.out g5)
  have CN := Lib.hid (takeName_any g B (lgP2 p e b) (lgE3 p e b) w5 r5)
  rw [show nmO (lgP2 p e b) (lgE3 p e b) = lgTo p e b from rfl, show nmL (lgP2 p e b) (lgE3 p e b) = lgP4 p e b from rfl, show nmE (lgP2 p e b) (lgE3 p e b) = lgE4 p e b from rfl] at CN
  clear e5 r5 g5 CM Kh4 K4 G4
  rw [← HTo.out] at CN
  go_wp2_with fail
  refine CN.out.mono ?_
  rintro r w6 ⟨A6, c6, rfl, o6, r6, g6⟩
  have k6 := Kh5.out.grown g6 (by intro h; injection h; omega)
  have kf3 := k6.frozen 3
  have kc3 := k6.cell 3
  have hw5 : w.heap.size ≤ w5.heap.size := G5.out.size
  have Kh6 := Lib.hid k6
  have K6 := Lib.hid (K5.out.grown g6 (by intro h; injection h; omega))
  have G6 := Lib.hid (only_then G5.out g6)
  have O6 := Lib.hid (o6.base_le hw5)
  have R6 := Lib.hid r6
  clear k6 o6 r6 g6 Kh5 K5 G5 CN
  go_wp2_with fail
  have Kh7 := Kh6.out.set_ 3 (.slice A6 To.length c6)
  have K7 := K6.out.far (p := ⟨gh, 3, none⟩) (by show w.heap.size ≠ gh; omega) (.slice A6 To.length c6)
  have r7 := R6.out.far (q := ⟨gh, 3, none⟩) hgh2 (.slice A6 To.length c6)
  have g7 := only_new G6.out (p := ⟨gh, 3, none⟩) (Nat.le_of_lt hghw) (.slice A6 To.length c6)
  have o7 := set1_own (i := 3) O6.out Kh6.out (by decide) (.slice A6 To.length c6)
  generalize w6.setCell ⟨gh, 3, none⟩ (.slice A6 To.length c6) = w7 at Kh7 K7 r7 g7 o7 ⊢
  have Kh7' : Blk w7 gh 24 #[.bool true, .int .i64 v, .bool false, .slice A6 To.length c6, .slice none 0 0] := Kh7
  clear Kh7 Kh6 K6 R6 G6 O6 kf3 kc3
  have CF := Lib.hid (takeName_any g B (lgP4 p e b) (lgE4 p e b) w7 r7)
  rw [show nmO (lgP4 p e b) (lgE4 p e b) = lgFr p e b from rfl, show nmL (lgP4 p e b) (lgE4 p e b) = lgP5 p e b from rfl, show nmE (lgP4 p e b) (lgE4 p e b) = lgE5 p e b from rfl, ← HFr.out] at CF
  refine CF.out.mono ?_
  rintro r w8 ⟨A8, c8, rfl, o8, r8, g8⟩
  have k8 := Kh7'.grown g8 (by intro h; injection h; omega)
  have kf4 := k8.frozen 4
  have kc4 := k8.cell 4
  have hw7 : w.heap.size ≤ w7.heap.size := g7.size
  have Kh8 := Lib.hid k8
  have K8 := Lib.hid (K7.grown g8 (by intro h; injection h; omega))
  have G8 := Lib.hid (only_then g7 g8)
  have T8 := Lib.hid (r7.ownGrown o7 g8)
  have F8 := Lib.hid (o8.base_le hw7)
  have R8 := Lib.hid r8
  have k81 : w8.cell? ⟨gh, 1, none⟩ = some (.int .i64 v) := k8.cell 1
  have kx1 : (w8.setCell ⟨gh, 4, none⟩ (.slice A8 Fr.length c8)).cell? ⟨gh, 1, none⟩ = some (.int .i64 v) := (k8.set_ 4 (.slice A8 Fr.length c8)).cell 1
  clear k8 o8 r8 g8 Kh7' K7 r7 g7 o7 CF
  have Kh9 := Lib.hid (show Blk (w8.setCell ⟨gh, 4, none⟩ (.slice A8 Fr.length c8)) gh 24 #[.bool true, .int .i64 v, .bool false, .slice A6 To.length c6, .slice A8 Fr.length c8] from Kh8.out.set_ 4 (.slice A8 Fr.length c8))
  have K9' := Lib.hid (K8.out.far (p := ⟨gh, 4, none⟩) (by show w.heap.size ≠ gh; omega) (.slice A8 Fr.length c8))
  have R9' := Lib.hid (R8.out.far (q := ⟨gh, 4, none⟩) hgh2 (.slice A8 Fr.length c8))
  have G9' := Lib.hid (only_new G8.out (p := ⟨gh, 4, none⟩) (Nat.le_of_lt hghw) (.slice A8 Fr.length c8))
  have T9' := Lib.hid (set1_own (i := 4) T8.out Kh8.out (by decide) (.slice A8 Fr.length c8))
  have F9' := Lib.hid (set1_own (i := 4) F8.out Kh8.out (by decide) (.slice A8 Fr.length c8))
  obtain ⟨w9, hw9⟩ : ∃ w9, w9 = w8.setCell ⟨gh, 4, none⟩ (.slice A8 Fr.length c8) := ⟨_, rfl⟩
  rw [← hw9] at Kh9 K9' R9' G9' T9' F9' kx1
  have HW9 := Lib.hid hw9
  clear hw9 Kh8 K8 G8 T8 F8 R8
  rcases hlv with rfl | rfl
  · have CN := Lib.hid (Number_any g B (lgP5 p e b) (lgE5 p e b) w9 R9'.out)
    go_wp2_with fail
    rw [← HW9.out]
    refine CN.out.mono ?_
    rintro r w10 ⟨rfl, r10, g10⟩
    have CM := Lib.hid (fun ok => Must_any g B (numL (lgP5 p e b) (lgE5 p e b)) (numE (lgP5 p e b) (lgE5 p e b)) ok w10 r10)
    have Kh10 := Lib.hid (Kh9.out.grown g10 (by intro h; injection h; omega))
    have K10 := Lib.hid (K9'.out.grown g10 (by intro h; injection h; omega))
    have T10 := Lib.hid (R9'.out.ownGrown T9'.out g10)
    have F10 := Lib.hid (R9'.out.ownGrown F9'.out g10)
    have R10 := Lib.hid r10
    have G10 := Lib.hid (only_then G9'.out g10)
    clear r10 g10 CN Kh9 K9' T9' F9' R9' G9'
    go_wp2_with fail
    refine (CM.out _).mono ?_
    rintro r wL ⟨rfl, rL, gL⟩
    have eL : mustE (numE (lgP5 p e b) (lgE5 p e b)) (numN (lgP5 p e b) (lgE5 p e b) == 0) = lgE6 p e b := by rw [lgE6, if_pos HV.out.symm]
    have pL : numL (lgP5 p e b) (lgE5 p e b) = lgP6 p e b := by rw [lgP6, if_pos HV.out.symm]
    rw [eL, pL] at rL
    have KhL := Lib.hid (Kh10.out.grown gL (by intro h; injection h; omega))
    have KL := Lib.hid (K10.out.grown gL (by intro h; injection h; omega))
    have TL := Lib.hid (R10.out.ownGrown T10.out gL)
    have FL := Lib.hid (R10.out.ownGrown F10.out gL)
    have RL := Lib.hid rL
    have GL := Lib.hid (only_then G10.out gL)
    clear rL gL eL pL CM Kh10 K10 T10 F10 R10 G10
    have CL := Lib.hid (takeLength_any g B (lgP6 p e b) (lgE6 p e b) wL.drew RL.out.drew)
    rw [show lnV (lgP6 p e b) (lgE6 p e b) = lgV p e b from rfl, show numL (lgP6 p e b) (lgE6 p e b) = lgP p e b from rfl, show lnE (lgP6 p e b) (lgE6 p e b) = lgE p e b from rfl] at CL
    go_wp2_with fail
    have hu5 := Tryd.underlying24
    have hi5 : (Tryd.prog.info? 24).map (·.size) = some [Value.bool true, .int .i64 0, .bool false, .slice A6 To.length c6, .slice A8 Fr.length c8].length := by kernel_rfl
    refine wp_region_held_drew (S := fun w' => w'.rangeAt gh 0 [Value.bool true, .int .i64 0, .bool false, .slice A6 To.length c6, .slice A8 Fr.length c8]) (by kernel_rfl) (show Blk wL.drew gh _ _ from KhL.out).range5 (fun hHeld => ?_)
    refine wpAnyH_take (i := 0) (oi := ⟨_, _, _, _, _, _⟩) rfl (by kernel_rfl) (by kernel_rfl) (by kernel_rfl) (fun _ _ _ h => h) (yieldsIf_load_mid (by rfl) 24 (.tmp 6) rfl gh 0 rfl [Value.bool true, .int .i64 0, .bool false, .slice A6 To.length c6, .slice A8 Fr.length c8] _ (fun w h => h) hu5 rfl hi5) hHeld ?_
    simp only [Act.put, List.setIfInBounds_toArray, List.set_cons_zero, List.set_cons_succ]
    refine wpAnyH_take (i := 1) (oi := ⟨_, _, _, _, _, _⟩) (v := .pointer (some ⟨g, 0, none⟩)) rfl (by kernel_rfl) (by kernel_rfl) (by kernel_rfl) (fun _ _ _ h => h) (Or.inl ⟨by rfl, fun w _ => rfl⟩) hHeld ?_
    simp only [Act.put, List.setIfInBounds_toArray, List.set_cons_zero, List.set_cons_succ]
    refine wpAnyH_ready (rs := [2]) (by kernel_rfl) (by simp) ?_
    refine AllReadyH.cons rfl (fun K hK => ?_) AllReadyH.nil
    go_simp
    refine CL.out.mono ?_
    rintro r wE ⟨rfl, rE, gE⟩
    have gE2 := only_then (only_drew1 (only_refl wL (some g))) gE
    have KhE := Lib.hid (KhL.out.grown gE2 (by intro h; injection h; omega))
    have K9 := Lib.hid (KL.out.grown gE2 (by intro h; injection h; omega))
    have T9 := Lib.hid (RL.out.ownGrown TL.out gE2)
    have F9 := Lib.hid (RL.out.ownGrown FL.out gE2)
    have R9 := Lib.hid rE
    have G9 := Lib.hid (only_then GL.out gE2)
    refine hK.out _ _ KhE.out.range5 (fun hHeldE => ?_)
    clear hK K rE gE gE2 CL KL TL FL RL GL KhL
    have f0 := K9.out.frozen 0
    have f1 := K9.out.frozen 1
    have f2 := K9.out.frozen 2
    have f3 := K9.out.frozen 3
    have f4 := K9.out.frozen 4
    have q0 := K9.out.cell 0
    have q1 := K9.out.cell 1
    have q2 := K9.out.cell 2
    have q3 := K9.out.cell 3
    have q4 := K9.out.cell 4
    refine wpAnyH_ready (rs := [3]) (by kernel_rfl) (by simp) ?_
    refine AllReadyH.cons rfl (fun K hK => ?_) AllReadyH.nil
    go_simp
    refine hK.out _ _ (show World.rangeAt (set5 wE w.heap.size _ _ _ _ _) gh 0 _ from (set5_far KhE.out (Nat.ne_of_gt hghw) _ _ _ _ _).range5) (fun hHeldF => ?_)
    clear hK K
    show wpAnyH _ _ _ _ _ _ _ _ (set5 wE w.heap.size (.bool true) (.int .i64 0) (.bool false) (.slice A6 To.length c6) (.slice A8 Fr.length c8))
    have hHeldG : World.rangeAt (set5 wE w.heap.size (.bool true) (.int .i64 0) (.bool false) (.slice A6 To.length c6) (.slice A8 Fr.length c8)) gh 0 [Value.bool true, .int .i64 0, .bool false, .slice A6 To.length c6, .slice A8 Fr.length c8] := hHeldF
    clear hHeldF f0 f1 f2 f3 f4 q0 q1 q2 q3 q4
    refine wpAnyH_take (i := 4) (oi := ⟨_, _, _, _, _, _⟩) (v := .int .i64 (lgV p e b)) rfl (by kernel_rfl) (by kernel_rfl) (by kernel_rfl) (fun _ _ _ h => h) (Or.inl ⟨by rfl, fun w _ => rfl⟩) hHeldG ?_
    simp only [Act.put, List.setIfInBounds_toArray, List.set_cons_zero, List.set_cons_succ]
    refine wpAnyH_done (by kernel_rfl) ?_ _
    clear hHeldG hHeld hHeldE
    go_wp2_with fail
    refine bodyPost_ret (results_row_tmp rfl _ _ w.heap.size 24 _ (0, 0) _ rfl (set5_blk K9.out _ _ _ _ _) Tryd.underlying24 rfl (by kernel_rfl)) rfl ?_
    exact ⟨_, _, _, _, rfl, set5_own T9.out K9.out (by decide) _ _ _ _ _, set5_own F9.out K9.out (by decide) _ _ _ _ _, set5_rdr R9.out hlt _ _ _ _ _, set5_only G9.out (Nat.le_refl _) _ _ _ _ _⟩
  · go_wp2_with fail
    rw [← HW9.out]
    have nL : ¬ lvl b = 0 := by rw [← HV.out]; omega
    have eL : lgE5 p e b = lgE6 p e b := by rw [lgE6, if_neg nL]
    have pL : lgP5 p e b = lgP6 p e b := by rw [lgP6, if_neg nL]
    rw [eL, pL] at R9'
    obtain ⟨wL, hwL⟩ : ∃ wL, wL = w9 := ⟨_, rfl⟩
    rw [← hwL] at Kh9 K9' R9' G9' T9' F9' ⊢
    have KhL := Kh9
    have KL := K9'
    have TL := T9'
    have FL := F9'
    have RL := R9'
    have GL := G9'
    clear Kh9 K9' T9' F9' R9' G9' nL eL pL hwL HW9 kx1
    have CL := Lib.hid (takeLength_any g B (lgP6 p e b) (lgE6 p e b) wL.drew RL.out.drew)
    rw [show lnV (lgP6 p e b) (lgE6 p e b) = lgV p e b from rfl, show numL (lgP6 p e b) (lgE6 p e b) = lgP p e b from rfl, show lnE (lgP6 p e b) (lgE6 p e b) = lgE p e b from rfl] at CL
    go_wp2_with fail
    have hu5 := Tryd.underlying24
    have hi5 : (Tryd.prog.info? 24).map (·.size) = some [Value.bool true, .int .i64 1, .bool false, .slice A6 To.length c6, .slice A8 Fr.length c8].length := by kernel_rfl
    refine wp_region_held_drew (S := fun w' => w'.rangeAt gh 0 [Value.bool true, .int .i64 1, .bool false, .slice A6 To.length c6, .slice A8 Fr.length c8]) (by kernel_rfl) (show Blk wL.drew gh _ _ from KhL.out).range5 (fun hHeld => ?_)
    refine wpAnyH_take (i := 0) (oi := ⟨_, _, _, _, _, _⟩) rfl (by kernel_rfl) (by kernel_rfl) (by kernel_rfl) (fun _ _ _ h => h) (yieldsIf_load_mid (by rfl) 24 (.tmp 6) rfl gh 0 rfl [Value.bool true, .int .i64 1, .bool false, .slice A6 To.length c6, .slice A8 Fr.length c8] _ (fun w h => h) hu5 rfl hi5) hHeld ?_
    simp only [Act.put, List.setIfInBounds_toArray, List.set_cons_zero, List.set_cons_succ]
    refine wpAnyH_take (i := 1) (oi := ⟨_, _, _, _, _, _⟩) (v := .pointer (some ⟨g, 0, none⟩)) rfl (by kernel_rfl) (by kernel_rfl) (by kernel_rfl) (fun _ _ _ h => h) (Or.inl ⟨by rfl, fun w _ => rfl⟩) hHeld ?_
    simp only [Act.put, List.setIfInBounds_toArray, List.set_cons_zero, List.set_cons_succ]
    refine wpAnyH_ready (rs := [2]) (by kernel_rfl) (by simp) ?_
    refine AllReadyH.cons rfl (fun K hK => ?_) AllReadyH.nil
    go_simp
    refine CL.out.mono ?_
    rintro r wE ⟨rfl, rE, gE⟩
    have gE2 := only_then (only_drew1 (only_refl wL (some g))) gE
    have KhE := Lib.hid (KhL.out.grown gE2 (by intro h; injection h; omega))
    have K9 := Lib.hid (KL.out.grown gE2 (by intro h; injection h; omega))
    have T9 := Lib.hid (RL.out.ownGrown TL.out gE2)
    have F9 := Lib.hid (RL.out.ownGrown FL.out gE2)
    have R9 := Lib.hid rE
    have G9 := Lib.hid (only_then GL.out gE2)
    refine hK.out _ _ KhE.out.range5 (fun hHeldE => ?_)
    clear hK K rE gE gE2 CL KL TL FL RL GL KhL
    have f0 := K9.out.frozen 0
    have f1 := K9.out.frozen 1
    have f2 := K9.out.frozen 2
    have f3 := K9.out.frozen 3
    have f4 := K9.out.frozen 4
    have q0 := K9.out.cell 0
    have q1 := K9.out.cell 1
    have q2 := K9.out.cell 2
    have q3 := K9.out.cell 3
    have q4 := K9.out.cell 4
    refine wpAnyH_ready (rs := [3]) (by kernel_rfl) (by simp) ?_
    refine AllReadyH.cons rfl (fun K hK => ?_) AllReadyH.nil
    go_simp
    refine hK.out _ _ (show World.rangeAt (set5 wE w.heap.size _ _ _ _ _) gh 0 _ from (set5_far KhE.out (Nat.ne_of_gt hghw) _ _ _ _ _).range5) (fun hHeldF => ?_)
    clear hK K
    show wpAnyH _ _ _ _ _ _ _ _ (set5 wE w.heap.size (.bool true) (.int .i64 1) (.bool false) (.slice A6 To.length c6) (.slice A8 Fr.length c8))
    have hHeldG : World.rangeAt (set5 wE w.heap.size (.bool true) (.int .i64 1) (.bool false) (.slice A6 To.length c6) (.slice A8 Fr.length c8)) gh 0 [Value.bool true, .int .i64 1, .bool false, .slice A6 To.length c6, .slice A8 Fr.length c8] := hHeldF
    clear hHeldF f0 f1 f2 f3 f4 q0 q1 q2 q3 q4
    refine wpAnyH_take (i := 4) (oi := ⟨_, _, _, _, _, _⟩) (v := .int .i64 (lgV p e b)) rfl (by kernel_rfl) (by kernel_rfl) (by kernel_rfl) (fun _ _ _ h => h) (Or.inl ⟨by rfl, fun w _ => rfl⟩) hHeldG ?_
    simp only [Act.put, List.setIfInBounds_toArray, List.set_cons_zero, List.set_cons_succ]
    refine wpAnyH_done (by kernel_rfl) ?_ _
    clear hHeldG hHeld hHeldE
    go_wp2_with fail
    refine bodyPost_ret (results_row_tmp rfl _ _ w.heap.size 24 _ (0, 0) _ rfl (set5_blk K9.out _ _ _ _ _) Tryd.underlying24 rfl (by kernel_rfl)) rfl ?_
    exact ⟨_, _, _, _, rfl, set5_own T9.out K9.out (by decide) _ _ _ _ _, set5_own F9.out K9.out (by decide) _ _ _ _ _, set5_rdr R9.out hlt _ _ _ _ _, set5_only G9.out (Nat.le_refl _) _ _ _ _ _⟩
end Go.Proofs.YtomapklkbfjafaaDoor
