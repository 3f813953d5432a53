/-
  head.take.
-/
import Derived.Test.YtomapklkbfjafaaDoorHeadE
namespace Go.Proofs.YtomapklkbfjafaaDoor
open Go.RowKit
set_option linter.unusedVariables false

def fixOk (b : Int) : Bool := decide (b / 64 % 2 = 1)
theorem and64 (b : Int) (h : 0 ≤ b ∧ b < 256) : (bits .and .u8 b 64 != 0) = fixOk b := by
  obtain ⟨n, rfl⟩ := Int.eq_ofNat_of_zero_le h.1
  have hn : n < 256 := by omega
  have k : ∀ m : Fin 256, ((m.val &&& 64) ≠ 0) ↔ m.val / 64 % 2 = 1 := by decide +kernel
  have := u8_and_nat n 64 (by omega) (by omega)
  rw [show ((64 : Nat) : Int) = 64 from rfl] at this
  rw [this]
  have kn := k ⟨n, hn⟩
  simp only at kn
  unfold fixOk
  by_cases hb : n / 64 % 2 = 1
  · have h1 := kn.2 hb
    have e1 : ((n : Int) / 64 % 2 = 1) := by omega
    simp only [e1, decide_true, bne_iff_ne]
    omega
  · have h1 : (n &&& 64) = 0 := by
      rcases Nat.eq_zero_or_pos (n &&& 64) with h | h
      · exact h
      · exact absurd (kn.1 (by omega)) hb
    have e1 : ¬ ((n : Int) / 64 % 2 = 1) := by omega
    rw [h1]
    simp [e1]
theorem and128 (b : Int) (h : 0 ≤ b ∧ b < 256) : (bits .and .u8 b 128 == 0) = decide (b < 128) := by
  obtain ⟨n, rfl⟩ := Int.eq_ofNat_of_zero_le h.1
  have hn : n < 256 := by omega
  have k : ∀ m : Fin 256, ((m.val &&& 128) = 0) ↔ m.val < 128 := by decide +kernel
  have := u8_and_nat n 128 (by omega) (by omega)
  rw [show ((128 : Nat) : Int) = 128 from rfl] at this
  rw [this]
  have kn := k ⟨n, hn⟩
  simp only at kn
  by_cases hb : n < 128
  · have h1 := kn.2 hb
    have e1 : ((n : Int) < 128) := by omega
    rw [h1]
    simp [e1]
  · have h1 : (n &&& 128) ≠ 0 := fun h => hb (kn.1 h)
    have e1 : ¬ ((n : Int) < 128) := by omega
    simp only [e1, decide_false, beq_eq_false_iff_ne]
    omega

/-- What a header's first byte is; what is left behind it; the error. -/
def hdP1 (p : List Int) (e : Int) : List Int := tkL p e 1
def hdE1 (p : List Int) (e : Int) : Int := mustE (needE e p.length 1) (fixOk (byteV p e))
def hdLong (p : List Int) (e : Int) : Bool := !decide (byteV p e < 128)
def hdLvl (p : List Int) (e : Int) : Int := if byteV p e < 128 then 2 else lvl (byteV p e)
def hdTo (p : List Int) (e : Int) : List Int := if byteV p e < 128 then tkO (hdP1 p e) (hdE1 p e) 8 else lgTo (hdP1 p e) (hdE1 p e) (byteV p e)
def hdFr (p : List Int) (e : Int) : List Int := if byteV p e < 128 then [] else lgFr (hdP1 p e) (hdE1 p e) (byteV p e)
def hdV (p : List Int) (e : Int) : Int := if byteV p e < 128 then shN (hdP1 p e) (hdE1 p e) else lgV (hdP1 p e) (hdE1 p e) (byteV p e)
def hdP (p : List Int) (e : Int) : List Int := if byteV p e < 128 then shL (hdP1 p e) (hdE1 p e) else lgP (hdP1 p e) (hdE1 p e) (byteV p e)
def hdE (p : List Int) (e : Int) : Int := if byteV p e < 128 then shE (hdP1 p e) (hdE1 p e) else lgE (hdP1 p e) (hdE1 p e) (byteV p e)

set_option maxHeartbeats 800000 in
theorem htake_any (g B : Nat) (p : List Int) (e : Int) (w : World) (h : Rdr w g B p e) :
    Calls Tryd.prog 22 #[.pointer (some ⟨g, 0, none⟩)] w fun r w' => ∃ A c A' c', r = .returned (.tuple #[.agg #[.bool (hdLong p e), .int .i64 (hdLvl p e), .bool false, .slice A (hdTo p e).length c, .slice A' (hdFr p e).length c'], .int .i64 (hdV p e)]) ∧
      Own w' w.heap.size A c (hdTo p e) ∧ Own w' w.heap.size A' c' (hdFr p e) ∧ Rdr w' g B (hdP p e) (hdE p e) ∧ w.grownBy w' (some g) := by
  have hb := byteV_range h.bytes e
  have hlt := h.lt
  have H := Lib.hid h
  have C1 := Lib.hid (fun W (hr : Rdr W g B p e) => Byte_any g B p e W hr)
  obtain ⟨b, hbv⟩ : ∃ b, b = byteV p e := ⟨_, rfl⟩
  have HBV := Lib.hid hbv
  rw [← hbv] at hb C1
  have a64 := and64 b hb
  have a128 := and128 b hb
  clear h
  by_cases hs : b < 128
  · have e1 : hdLong p e = false := by rw [hdLong, ← hbv]; simp [hs]
    have e2 : hdLvl p e = 2 := by rw [hdLvl, ← hbv, if_pos hs]
    have e3 : hdTo p e = tkO (hdP1 p e) (hdE1 p e) 8 := by rw [hdTo, ← hbv, if_pos hs]
    have e4 : hdFr p e = [] := by rw [hdFr, ← hbv, if_pos hs]
    have e5 : hdV p e = shN (hdP1 p e) (hdE1 p e) := by rw [hdV, ← hbv, if_pos hs]
    have e6 : hdP p e = shL (hdP1 p e) (hdE1 p e) := by rw [hdP, ← hbv, if_pos hs]
    have e7 : hdE p e = shE (hdP1 p e) (hdE1 p e) := by rw [hdE, ← hbv, if_pos hs]
    rw [e1, e2, e3, e4, e5, e6, e7]
    rw [decide_eq_true hs] at a128
    obtain ⟨To, hTo⟩ : ∃ To, To = tkO (hdP1 p e) (hdE1 p e) 8 := ⟨_, rfl⟩
    rw [← hTo]
    have HTo := Lib.hid hTo
    clear e1 e2 e3 e4 e5 e6 e7 hTo hbv
    go_enter Tryd.func22, Tryd.ntmps22
    go_wp2_with fail
    refine (C1.out _ (H.out.below ((Below.refl _ _).alloc (Nat.le_refl _) _))).mono ?_
    rintro r w1 ⟨rfl, r1, g1⟩
    have CM := Lib.hid (fun ok => Must_any g B (tkL p e 1) (needE e p.length 1) ok w1 r1)
    have K1 := Lib.hid ((Blk.new w 24 #[.bool false, .int .i64 0, .bool false, .slice none 0 0, .slice none 0 0]).grown g1 (by intro h; injection h; omega))
    have G1 := Lib.hid (only_then (only_below ((Below.refl _ _).alloc (Nat.le_refl _) _) (some g)) g1)
    clear r1 g1 C1
    go_wp2_with fail
    refine (CM.out _).mono ?_
    rintro r w2 ⟨rfl, r2, g2⟩
    have eE : mustE (needE e p.length 1) (fixOk b) = hdE1 p e := by rw [hdE1, HBV.out]
    rw [eE, show tkL p e 1 = hdP1 p e from rfl] at r2
    have K2 := Lib.hid (K1.out.grown g2 (by intro h; injection h; omega))
    have G2 := Lib.hid (only_then G1.out g2)
    have CS := Lib.hid (takeShort_any g B (hdP1 p e) (hdE1 p e) w2 r2)
    rw [← HTo.out] at CS
    clear r2 g2 eE CM K1 G1
    go_wp2_with fail
    refine CS.out.mono ?_
    rintro r w3 ⟨A3, c3, rfl, o3, r3, g3⟩
    have K3 := Lib.hid (K2.out.grown g3 (by intro h; injection h; omega))
    have O3 := Lib.hid (o3.base_le G2.out.size)
    have R3 := Lib.hid r3
    have G3 := Lib.hid (only_then G2.out g3)
    clear o3 r3 g3 K2 G2 CS
    have f0 := K3.out.frozen 0
    have f1 := K3.out.frozen 1
    have f2 := K3.out.frozen 2
    have f3 := K3.out.frozen 3
    have f4 := K3.out.frozen 4
    have q0 := K3.out.cell 0
    have q1 := K3.out.cell 1
    have q2 := K3.out.cell 2
    have q3 := K3.out.cell 3
    have q4 := K3.out.cell 4
    go_wp2_with fail
    show bodyPost _ _ _ _ _ (set5 w3 w.heap.size _ _ _ _ _)
    refine bodyPost_ret (results_row_tmp rfl _ _ w.heap.size 24 _ (0, 0) _ rfl (set5_blk K3.out _ _ _ _ _) Tryd.underlying24 rfl (by kernel_rfl)) rfl ?_
    exact ⟨_, _, none, 0, rfl, set5_own O3.out K3.out (by decide) _ _ _ _ _, Own.nil _ _, set5_rdr R3.out hlt _ _ _ _ _, set5_only G3.out (Nat.le_refl _) _ _ _ _ _⟩
  · have e1 : hdLong p e = true := by rw [hdLong, ← hbv]; simp [hs]
    have e2 : hdLvl p e = lvl b := by rw [hdLvl, ← hbv, if_neg hs]
    have e3 : hdTo p e = lgTo (hdP1 p e) (hdE1 p e) b := by rw [hdTo, ← hbv, if_neg hs]
    have e4 : hdFr p e = lgFr (hdP1 p e) (hdE1 p e) b := by rw [hdFr, ← hbv, if_neg hs]
    have e5 : hdV p e = lgV (hdP1 p e) (hdE1 p e) b := by rw [hdV, ← hbv, if_neg hs]
    have e6 : hdP p e = lgP (hdP1 p e) (hdE1 p e) b := by rw [hdP, ← hbv, if_neg hs]
    have e7 : hdE p e = lgE (hdP1 p e) (hdE1 p e) b := by rw [hdE, ← hbv, if_neg hs]
    rw [e1, e2, e3, e4, e5, e6, e7]
    rw [decide_eq_false hs] at a128
    obtain ⟨To, hTo⟩ : ∃ To, To = lgTo (hdP1 p e) (hdE1 p e) b := ⟨_, rfl⟩
    obtain ⟨Fr, hFr⟩ : ∃ Fr, Fr = lgFr (hdP1 p e) (hdE1 p e) b := ⟨_, rfl⟩
    rw [← hTo, ← hFr]
    have HTo := Lib.hid hTo
    have HFr := Lib.hid hFr
    clear e1 e2 e3 e4 e5 e6 e7 hTo hFr hbv
    go_enter Tryd.func22, Tryd.ntmps22
    go_wp2_with fail
    refine (C1.out _ (H.out.below ((Below.refl _ _).alloc (Nat.le_refl _) _))).mono ?_
    rintro r w1 ⟨rfl, r1, g1⟩
    have CM := Lib.hid (fun ok => Must_any g B (tkL p e 1) (needE e p.length 1) ok w1 r1)
    have K1 := Lib.hid ((Blk.new w 24 #[.bool false, .int .i64 0, .bool false, .slice none 0 0, .slice none 0 0]).grown g1 (by intro h; injection h; omega))
    have G1 := Lib.hid (only_then (only_below ((Below.refl _ _).alloc (Nat.le_refl _) _) (some g)) g1)
    clear r1 g1 C1
    go_wp2_with fail
    refine (CM.out _).mono ?_
    rintro r w2 ⟨rfl, r2, g2⟩
    have eE : mustE (needE e p.length 1) (fixOk b) = hdE1 p e := by rw [hdE1, HBV.out]
    rw [eE, show tkL p e 1 = hdP1 p e from rfl] at r2
    have K2 := Lib.hid (K1.out.grown g2 (by intro h; injection h; omega))
    have G2 := Lib.hid (only_then G1.out g2)
    have CS := Lib.hid (takeLong_any g B (hdP1 p e) (hdE1 p e) b w2 r2 hb)
    rw [← HTo.out, ← HFr.out] at CS
    clear r2 g2 eE CM K1 G1
    go_wp2_with fail
    refine CS.out.mono ?_
    rintro r w3 ⟨A3, c3, A3', c3', rfl, o3, o3', r3, g3⟩
    have O3' := Lib.hid (o3'.base_le G2.out.size)
    have K3 := Lib.hid (K2.out.grown g3 (by intro h; injection h; omega))
    have O3 := Lib.hid (o3.base_le G2.out.size)
    have R3 := Lib.hid r3
    have G3 := Lib.hid (only_then G2.out g3)
    clear o3 o3' r3 g3 K2 G2 CS
    have f0 := K3.out.frozen 0
    have f1 := K3.out.frozen 1
    have f2 := K3.out.frozen 2
    have f3 := K3.out.frozen 3
    have f4 := K3.out.frozen 4
    have q0 := K3.out.cell 0
    have q1 := K3.out.cell 1
    have q2 := K3.out.cell 2
    have q3 := K3.out.cell 3
    have q4 := K3.out.cell 4
    go_wp2_with fail
    show bodyPost _ _ _ _ _ (set5 w3 w.heap.size _ _ _ _ _)
    refine bodyPost_ret (results_row_tmp rfl _ _ w.heap.size 24 _ (0, 0) _ rfl (set5_blk K3.out _ _ _ _ _) Tryd.underlying24 rfl (by kernel_rfl)) rfl ?_
    exact ⟨_, _, _, _, rfl, set5_own O3.out K3.out (by decide) _ _ _ _ _, set5_own O3'.out K3.out (by decide) _ _ _ _ _, set5_rdr R3.out hlt _ _ _ _ _, set5_only G3.out (Nat.le_refl _) _ _ _ _ _⟩
end Go.Proofs.YtomapklkbfjafaaDoor
