/-
  head.take.
-/
import Derived.Test.YtjibbegdieiknaaDoorMaAJ
import Derived.Test.YtjibbegdieiknaaDoorMaAH
namespace Go.Proofs.YtjibbegdieiknaaDoor
open Go.RowKit
set_option linter.unusedVariables false

def fixOk (b : Int) : Bool := decide (b / 64 % 2 = 1)
theorem and64 (b : Int) (h : 0 ≤ b ∧ b < 256) : (bits .and .u8 b 64 != 0) = fixOk b := by
  obtain ⟨n, rfl⟩ := Int.eq_ofNat_of_zero_le h.1
  have hn : n < 256 := by omega
  have k : ∀ m : Fin 256, ((m.val &&& 64) ≠ 0) ↔ m.val / 64 % 2 = 1 := by decide +kernel
  have := u8_and_nat n 64 (by omega) (by omega)
  rw [show ((64 : Nat) : Int) = 64 from rfl] at this
  rw [this]
  have kn := k ⟨n, hn⟩
  simp only at kn
  unfold fixOk
  by_cases hb : n / 64 % 2 = 1
  · have h1 := kn.2 hb
    have e1 : ((n : Int) / 64 % 2 = 1) := by omega
    simp only [e1, decide_true, bne_iff_ne]
    omega
  · have h1 : (n &&& 64) = 0 := by
      rcases Nat.eq_zero_or_pos (n &&& 64) with h | h
      · exact h
      · exact absurd (kn.1 (by omega)) hb
    have e1 : ¬ ((n : Int) / 64 % 2 = 1) := by omega
    rw [h1]
    simp [e1]
theorem and128 (b : Int) (h : 0 ≤ b ∧ b < 256) : (bits .and .u8 b 128 == 0) = decide (b < 128) := by
  obtain ⟨n, rfl⟩ := Int.eq_ofNat_of_zero_le h.1
  have hn : n < 256 := by omega
  have k : ∀ m : Fin 256, ((m.val &&& 128) = 0) ↔ m.val < 128 := by decide +kernel
  have := u8_and_nat n 128 (by omega) (by omega)
  rw [show ((128 : Nat) : Int) = 128 from rfl] at this
  rw [this]
  have kn := k ⟨n, hn⟩
  simp only at kn
  by_cases hb : n < 128
  · have h1 := kn.2 hb
    have e1 : ((n : Int) < 128) := by omega
    rw [h1]
    simp [e1]
  · have h1 : (n &&& 128) ≠ 0 := fun h => hb (kn.1 h)
    have e1 : ¬ ((n : Int) < 128) := by omega
    simp only [e1, decide_false, beq_eq_false_iff_ne]
    omega

/-- What a header's first byte is; what is left behind it; the error. -/
def hdP1 (p : List Int) (e : Int) : List Int := tkL p e 1
def hdE1 (p : List Int) (e : Int) : Int := mustE (needE e p.length 1) (fixOk (byteV p e))
def hdLong (p : List Int) (e : Int) : Bool := !decide (byteV p e < 128)
def hdLvl (p : List Int) (e : Int) : Int := if byteV p e < 128 then 2 else lvl (byteV p e)
def hdTo (p : List Int) (e : Int) : List Int := if byteV p e < 128 then tkO (hdP1 p e) (hdE1 p e) 8 else lgTo (hdP1 p e) (hdE1 p e) (byteV p e)
def hdFr (p : List Int) (e : Int) : List Int := if byteV p e < 128 then [] else lgFr (hdP1 p e) (hdE1 p e) (byteV p e)
def hdV (p : List Int) (e : Int) : Int := if byteV p e < 128 then shN (hdP1 p e) (hdE1 p e) else lgV (hdP1 p e) (hdE1 p e) (byteV p e)
def hdP (p : List Int) (e : Int) : List Int := if byteV p e < 128 then shL (hdP1 p e) (hdE1 p e) else lgP (hdP1 p e) (hdE1 p e) (byteV p e)
def hdE (p : List Int) (e : Int) : Int := if byteV p e < 128 then shE (hdP1 p e) (hdE1 p e) else lgE (hdP1 p e) (hdE1 p e) (byteV p e)

set_option maxHeartbeats 800000 in
theorem htake_any (g B : Nat) (p : List Int) (e : Int) (w : World) (h : Rdr w g B p e) :
    Calls Tryd.prog 61 #[.pointer (some ⟨g, 0, none⟩)] w fun r w' => ∃ A c A' c', r = .returned (.tuple #[.agg #[.bool (hdLong p e), .int .i64 (hdLvl p e), .bool false, .slice A (hdTo p e).length c, .slice A' (hdFr p e).length c'], .int .i64 (hdV p e)]) ∧
      Own w' w.heap.size A c (hdTo p e) ∧ Own w' w.heap.size A' c' (hdFr p e) ∧ Rdr w' g B (hdP p e) (hdE p e) ∧ w.grownBy w' (some g) := by
  have hb := byteV_range h.bytes e
  have hlt := h.lt
  have H := Lib.hid h
  have C1 := Lib.hid (fun W (hr : Rdr W g B p e) => Byte_any g B p e W hr)
  obtain ⟨b, hbv⟩ : ∃ b, b = byteV p e := ⟨_, rfl⟩
  have HBV := Lib.hid hbv
  rw [← hbv] at hb C1
  have a64 := and64 b hb
  have a128 := and128 b hb
  clear h
  by_cases hs : b < 128
  · have e1 : hdLong p e = false := by rw [hdLong, ← hbv]; simp [hs]
    have e2 : hdLvl p e = 2 := by rw [hdLvl, ← hbv, if_pos hs]
    have e3 : hdTo p e = tkO (hdP1 p e) (hdE1 p e) 8 := by rw [hdTo, ← hbv, if_pos hs]
    have e4 : hdFr p e = [] := by rw [hdFr, ← hbv, if_pos hs]
    have e5 : hdV p e = shN (hdP1 p e) (hdE1 p e) := by rw [hdV, ← hbv, if_pos hs]
    have e6 : hdP p e = shL (hdP1 p e) (hdE1 p e) := by rw [hdP, ← hbv, if_pos hs]
    have e7 : hdE p e = shE (hdP1 p e) (hdE1 p e) := by rw [hdE, ← hbv, if_pos hs]
    rw [e1, e2, e3, e4, e5, e6, e7]
    rw [decide_eq_true hs] at a128
    obtain ⟨To, hTo⟩ : ∃ To, To = tkO (hdP1 p e) (hdE1 p e) 8 := ⟨_, rfl⟩
    rw [← hTo]
    have HTo := Lib.hid hTo
    clear e1 e2 e3 e4 e5 e6 e7 hTo hbv
    go_enter Tryd.func61, Tryd.ntmps61
    go_wp2_with fail
    refine (C1.out _ (H.out.below ((Below.refl _ _).alloc (Nat.le_refl _) _))).mono ?_
    rintro r w1 ⟨rfl, r1, g1⟩
    have CM := Lib.hid (fun ok => Must_any g B (tkL p e 1) (needE e p.length 1) ok w1 r1)
    have K1 := Lib.hid ((Blk.new w 25 #[.bool false, .int .i64 0, .bool false, .slice none 0 0, .slice none 0 0]).grown g1 (by intro h; injection h; omega))
    have G1 := Lib.hid (only_then (only_below ((Below.refl _ _).alloc (Nat.le_refl _) _) (some g)) g1)
    clear r1 g1 C1
    go_wp2_with fail
    refine (CM.out _).mono ?_
    rintro r w2 ⟨rfl, r2, g2⟩
    have eE : mustE (needE e p.length 1) (fixOk b) = hdE1 p e := by rw [hdE1, HBV.out]
    rw [eE, show tkL p e 1 = hdP1 p e from rfl] at r2
    have K2 := Lib.hid (K1.out.grown g2 (by intro h; injection h; omega))
    have G2 := Lib.hid (only_then G1.out g2)
    have CS := Lib.hid (takeShort_any g B (hdP1 p e) (hdE1 p e) w2 r2)
    rw [← HTo.out] at CS
    clear r2 g2 eE CM K1 G1
    go_wp2_with fail
    refine CS.out.mono ?_
    rintro r w3 ⟨A3, c3, rfl, o3, r3, g3⟩
    have K3 := Lib.hid (K2.out.grown g3 (by intro h; injection h; omega))
    have O3 := Lib.hid (o3.base_le G2.out.size)
    have R3 := Lib.hid r3
    have G3 := Lib.hid (only_then G2.out g3)
    clear o3 r3 g3 K2 G2 CS
    have f0 := K3.out.frozen 0
    have f1 := K3.out.frozen 1
    have f2 := K3.out.frozen 2
    have f3 := K3.out.frozen 3
    have f4 := K3.out.frozen 4
    have q0 := K3.out.cell 0
    have q1 := K3.out.cell 1
    have q2 := K3.out.cell 2
    have q3 := K3.out.cell 3
    have q4 := K3.out.cell 4
    go_wp2_with fail
    show bodyPost _ _ _ _ _ (set5 w3 w.heap.size _ _ _ _ _)
    refine bodyPost_ret (results_row_tmp rfl _ _ w.heap.size 25 _ (0, 0) _ rfl (set5_blk K3.out _ _ _ _ _) Tryd.underlying25 rfl (by kernel_rfl)) rfl ?_
    exact ⟨_, _, none, 0, rfl, set5_own O3.out K3.out (by decide) _ _ _ _ _, Own.nil _ _, set5_rdr R3.out hlt _ _ _ _ _, set5_only G3.out (Nat.le_refl _) _ _ _ _ _⟩
  · have e1 : hdLong p e = true := by rw [hdLong, ← hbv]; simp [hs]
    have e2 : hdLvl p e = lvl b := by rw [hdLvl, ← hbv, if_neg hs]
    have e3 : hdTo p e = lgTo (hdP1 p e) (hdE1 p e) b := by rw [hdTo, ← hbv, if_neg hs]
    have e4 : hdFr p e = lgFr (hdP1 p e) (hdE1 p e) b := by rw [hdFr, ← hbv, if_neg hs]
    have e5 : hdV p e = lgV (hdP1 p e) (hdE1 p e) b := by rw [hdV, ← hbv, if_neg hs]
    have e6 : hdP p e = lgP (hdP1 p e) (hdE1 p e) b := by rw [hdP, ← hbv, if_neg hs]
    have e7 : hdE p e = lgE (hdP1 p e) (hdE1 p e) b := by rw [hdE, ← hbv, if_neg hs]
    rw [e1, e2, e3, e4, e5, e6, e7]
    rw [decide_eq_false hs] at a128
    obtain ⟨To, hTo⟩ : ∃ To, To = lgTo (hdP1 p e) (hdE1 p e) b := ⟨_, rfl⟩
    obtain ⟨Fr, hFr⟩ : ∃ Fr, Fr = lgFr (hdP1 p e) (hdE1 p e) b := ⟨_, rfl⟩
    rw [← hTo, ← hFr]
    have HTo := Lib.hid hTo
    have HFr := Lib.hid hFr
    clear e1 e2 e3 e4 e5 e6 e7 hTo hFr hbv
    go_enter Tryd.func61, Tryd.ntmps61
    go_wp2_with fail
    refine (C1.out _ (H.out.below ((Below.refl _ _).alloc (Nat.le_refl _) _))).mono ?_
    rintro r w1 ⟨rfl, r1, g1⟩
    have CM := Lib.hid (fun ok => Must_any g B (tkL p e 1) (needE e p.length 1) ok w1 r1)
    have K1 := Lib.hid ((Blk.new w 25 #[.bool false, .int .i64 0, .bool false, .slice none 0 0, .slice none 0 0]).grown g1 (by intro h; injection h; omega))
    have G1 := Lib.hid (only_then (only_below ((Below.refl _ _).alloc (Nat.le_refl _) _) (some g)) g1)
    clear r1 g1 C1
    go_wp2_with fail
    refine (CM.out _).mono ?_
    rintro r w2 ⟨rfl, r2, g2⟩
    have eE : mustE (needE e p.length 1) (fixOk b) = hdE1 p e := by rw [hdE1, HBV.out]
    rw [eE, show tkL p e 1 = hdP1 p e from rfl] at r2
    have K2 := Lib.hid (K1.out.grown g2 (by intro h; injection h; omega))
    have G2 := Lib.hid (only_then G1.out g2)
    have CS := Lib.hid (takeLong_any g B (hdP1 p e) (hdE1 p e) b w2 r2 hb)
    rw [← HTo.out, ← HFr.out] at CS
    clear r2 g2 eE CM K1 G1
    go_wp2_with fail
    refine CS.out.mono ?_
    rintro r w3 ⟨A3, c3, A3', c3', rfl, o3, o3', r3, g3⟩
    have O3' := Lib.hid (o3'.base_le G2.out.size)
    have K3 := Lib.hid (K2.out.grown g3 (by intro h; injection h; omega))
    have O3 := Lib.hid (o3.base_le G2.out.size)
    have R3 := Lib.hid r3
    have G3 := Lib.hid (only_then G2.out g3)
    clear o3 o3' r3 g3 K2 G2 CS
    have f0 := K3.out.frozen 0
    have f1 := K3.out.frozen 1
    have f2 := K3.out.frozen 2
    have f3 := K3.out.frozen 3
    have f4 := K3.out.frozen 4
    have q0 := K3.out.cell 0
    have q1 := K3.out.cell 1
    have q2 := K3.out.cell 2
    have q3 := K3.out.cell 3
    have q4 := K3.out.cell 4
    go_wp2_with fail
    show bodyPost _ _ _ _ _ (set5 w3 w.heap.size _ _ _ _ _)
    refine bodyPost_ret (results_row_tmp rfl _ _ w.heap.size 25 _ (0, 0) _ rfl (set5_blk K3.out _ _ _ _ _) Tryd.underlying25 rfl (by kernel_rfl)) rfl ?_
    exact ⟨_, _, _, _, rfl, set5_own O3.out K3.out (by decide) _ _ _ _ _, set5_own O3'.out K3.out (by decide) _ _ _ _ _, set5_rdr R3.out hlt _ _ _ _ _, set5_only G3.out (Nat.le_refl _) _ _ _ _ _⟩
end Go.Proofs.YtjibbegdieiknaaDoor

/-
  head.Read: the head in front, by value.
-/
namespace Go.Proofs.YtjibbegdieiknaaDoor
open Go.RowKit
set_option linter.unusedVariables false

theorem below_grown {B : Nat} {a w w' : World} {g : Nat} (h : Below B a w) (hg : w.grownBy w' (some g)) (hB : B ≤ w.heap.size) (hr : B ≤ g) : Below B a w' := h.grown hg hB (by rintro _ ⟨⟩; exact hr)
theorem results_row_tmp3 {P : Program} {fn : Func} {p u v x : Tmp} {ty : TypeId} (h : fn.results = #[.cell p ty, .tmp u, .tmp v, .tmp x]) (tmps : Array Value) (w : World) (g : Nat) (t : TypeId) (cs : Array Value) (fr : Nat × Nat) (d : TypeDesc)
    (hp : tmps.getD p undef = .pointer (some ⟨g, 0, none⟩)) (hg : w.heap[g]? = some (.cells cs t fr))
    (hu : P.underlying ty = some d) (hd : (match d with | .struct _ | .array _ _ => true | _ => false) = true) (hi : (P.info? ty).map (·.size) = some cs.size) :
    (results fn tmps).run P w = .ok (.tuple #[.agg cs, tmps.getD u undef, tmps.getD v undef, tmps.getD x undef]) w := by
  have hl := run_loadVar_row w g t ty cs fr d hg hu hd hi
  have hp' : tmps[p]?.getD undef = .pointer (some ⟨g, 0, none⟩) := by simpa using hp
  simp only [results, h]
  simp [hp', asAddr, hl]

theorem below_set5 {B : Nat} {a w : World} (h : Below B a w) {q : Nat} (hq : B ≤ q) (x0 x1 x2 x3 x4 : Value) : Below B a (set5 w q x0 x1 x2 x3 x4) :=
  ((((h.setCell (p := ⟨q, 0, none⟩) hq x0).setCell (p := ⟨q, 1, none⟩) hq x1).setCell (p := ⟨q, 2, none⟩) hq x2).setCell (p := ⟨q, 3, none⟩) hq x3).setCell (p := ⟨q, 4, none⟩) hq x4
def rdErr (p : List Int) : Int := mustE (hdE p 0) (decide (20 ≤ hdV p 0))
def rdLeft (p : List Int) : List Int := leftV (hdP p 0) (rdErr p)
def rdAt (p : List Int) : Int := (p.length : Int) - (rdLeft p).length

theorem tkL_bytes {p : List Int} (h : Bytes p) (e : Int) (n : Nat) : Bytes (tkL p e n) := by unfold tkL; split; exact h.drop _; exact h
theorem numL_bytes {p : List Int} (h : Bytes p) (e : Int) : Bytes (numL p e) := by unfold numL; split; exact h.drop _; exact h
theorem nmL_bytes {p : List Int} (h : Bytes p) (e : Int) : Bytes (nmL p e) := tkL_bytes (tkL_bytes h _ _) _ _
theorem tkL_len (p : List Int) (e : Int) (n : Nat) : (tkL p e n).length ≤ p.length := by unfold tkL; split <;> simp
theorem lgP6_bytes {p : List Int} (h : Bytes p) (e b : Int) : Bytes (lgP6 p e b) := by
  have h5 : Bytes (lgP5 p e b) := nmL_bytes (nmL_bytes (tkL_bytes h _ _) _) _
  unfold lgP6
  split
  · exact numL_bytes h5 _
  · exact h5
theorem hdV_range {p : List Int} (h : Bytes p) (hl : p.length ≤ 70368744177664) : 0 ≤ hdV p 0 ∧ hdV p 0 < 4611686018427387904 := by
  unfold hdV
  split
  · have h1 := tkL_len p 0 1
    have h2 := tkL_len (hdP1 p 0) (hdE1 p 0) 8
    have h3 : shN (hdP1 p 0) (hdE1 p 0) ≤ p.length := by
      unfold shN leftV shL
      split
      · exact Nat.le_trans h2 h1
      · simp
    omega
  · have h1 := numN_range (lgP6_bytes (tkL_bytes h 0 1) (hdE1 p 0) (byteV p 0)) (lgE6 (hdP1 p 0) (hdE1 p 0) (byteV p 0))
    unfold lgV lnV
    split
    · exact h1
    · omega

set_option maxHeartbeats 1600000 in
theorem Read_no (A : Option Addr) (c : Nat) (p : List Int) (w : World) (h : Sl w A c p) (hb : Bytes p) (hl : p.length ≤ 70368744177664) (hE : rdErr p ≠ 0) :
    Calls Tryd.prog 43 #[.slice A p.length c] w fun r w' => r = .returned (.tuple #[.agg #[.bool false, .int .i64 0, .bool false, .slice none 0 0, .slice none 0 0], .int .i64 0, .int .i64 0, .int .i64 (rdErr p)]) ∧ Below w.heap.size w w' := by
  have C1 := Lib.hid (fun W (hs : Sl W A c p) => New_any A c p W hs hb hl)
  have H := Lib.hid h
  obtain ⟨E, hEE⟩ : ∃ E, E = rdErr p := ⟨_, rfl⟩
  rw [← hEE] at hE ⊢
  have HEE := Lib.hid hEE
  have hz : (E == 0) = false := by simpa using hE
  clear h hb hEE
  go_enter Tryd.func43, Tryd.ntmps43
  go_wp2_with fail
  have b0 : Below w.heap.size w (w.alloc (.cells #[.bool false, .int .i64 0, .bool false, .slice none 0 0, .slice none 0 0] 25)) := (Below.refl _ _).alloc (Nat.le_refl _) _
  refine (C1.out _ (H.out.below b0)).mono ?_
  rintro r w1 ⟨g, rfl, r1, b1⟩
  have hB1 : w.heap.size + 1 ≤ g := by have := r1.le; simpa using this
  have K1 := Lib.hid ((Blk.new w 25 #[.bool false, .int .i64 0, .bool false, .slice none 0 0, .slice none 0 0]).below b1 (by simp))
  have BL1 := Lib.hid (b0.trans (b1.mono (by simp)))
  have CT := Lib.hid (htake_any g _ p 0 w1 r1)
  clear r1 b1 b0 C1
  go_wp2_with fail
  refine CT.out.mono ?_
  rintro r w2 ⟨A2, c2, A3, c3, rfl, o2, o3, r2, g2⟩
  obtain ⟨gh, hgh⟩ : ∃ x, x = w2.heap.size := ⟨_, rfl⟩
  obtain ⟨HV, hHV⟩ : ∃ x : Array Value, x = #[.bool (hdLong p 0), .int .i64 (hdLvl p 0), .bool false, .slice A2 (hdTo p 0).length c2, .slice A3 (hdFr p 0).length c3] := ⟨_, rfl⟩
  have ba : Below w2.heap.size w2 (w2.alloc (.cells HV 25)) := (Below.refl _ _).alloc (Nat.le_refl _) _
  have kh : Blk (w2.alloc (.cells HV 25)) gh 25 HV := by rw [hgh]; exact Blk.new _ _ _
  have hgg : g < gh := by rw [hgh]; exact r2.lt
  have CM := Lib.hid (fun ok => Must_any g _ (hdP p 0) (hdE p 0) ok _ (r2.below ba))
  have k2 := K1.out.grown g2 (by intro h; injection h; omega)
  have K2 := Lib.hid (k2.below ba k2.lt)
  have bl2 := below_grown BL1.out g2 BL1.out.size (by omega)
  have BL2 := Lib.hid (bl2.trans (ba.mono bl2.size))
  have O2 := Lib.hid ((o2.below ba).base_le (show w.heap.size ≤ w1.heap.size from BL1.out.size))
  have O3 := Lib.hid ((o3.below ba).base_le (show w.heap.size ≤ w1.heap.size from BL1.out.size))
  have RD2 := Lib.hid (r2.below ba)
  rw [hHV] at CM K2 BL2 O2 O3 kh RD2
  have KH := Lib.hid kh
  have HGH := Lib.hid hgh.symm
  clear o2 o3 r2 g2 CT K1 BL1 kh ba k2 bl2 hHV HV hgh
  go_wp2_with fail
  rw [HGH.out]
  refine (CM.out _).mono ?_
  rintro r w3 ⟨rfl, r3, g3⟩
  rw [show mustE (hdE p 0) (decide (20 ≤ hdV p 0)) = rdErr p from rfl] at r3
  rw [← HEE.out] at r3
  have CE := Lib.hid (Errno_any g _ (hdP p 0) E w3 r3)
  have K3 := Lib.hid (K2.out.grown g3 (by intro h; injection h; omega))
  have BL3 := Lib.hid (below_grown BL2.out g3 BL2.out.size (by omega))
  clear r3 g3 CM K2 BL2 O2 O3 KH
  go_wp2_with fail
  refine CE.out.mono ?_
  rintro r w4 ⟨rfl, rfl⟩
  go_wp2_with fail
  refine CE.out.mono ?_
  rintro r w4 ⟨rfl, rfl⟩
  have f0 := K3.out.frozen 0
  have f1 := K3.out.frozen 1
  have f2 := K3.out.frozen 2
  have f3 := K3.out.frozen 3
  have f4 := K3.out.frozen 4
  have q0 := K3.out.cell 0
  have q1 := K3.out.cell 1
  have q2 := K3.out.cell 2
  have q3 := K3.out.cell 3
  have q4 := K3.out.cell 4
  go_wp2_with fail
  show bodyPost _ _ _ _ _ (set5 w3 w.heap.size _ _ _ _ _)
  refine bodyPost_ret (results_row_tmp3 rfl _ _ w.heap.size 25 _ (0, 0) _ rfl (set5_blk K3.out _ _ _ _ _) Tryd.underlying25 rfl (by kernel_rfl)) rfl ?_
  exact ⟨rfl, below_set5 BL3.out (Nat.le_refl _) _ _ _ _ _⟩

set_option maxHeartbeats 1600000 in
theorem Read_yes (A : Option Addr) (c : Nat) (p : List Int) (w : World) (h : Sl w A c p) (hb : Bytes p) (hl : p.length ≤ 70368744177664) (hE : rdErr p = 0) :
    Calls Tryd.prog 43 #[.slice A p.length c] w fun r w' => ∃ A1 c1 A2 c2, r = .returned (.tuple #[.agg #[.bool (hdLong p 0), .int .i64 (hdLvl p 0), .bool false, .slice A1 (hdTo p 0).length c1, .slice A2 (hdFr p 0).length c2], .int .i64 (rdAt p), .int .i64 (rdAt p + hdV p 0), .int .i64 0]) ∧
      Own w' w.heap.size A1 c1 (hdTo p 0) ∧ Own w' w.heap.size A2 c2 (hdFr p 0) ∧ Below w.heap.size w w' := by
  have C1 := Lib.hid (fun W (hs : Sl W A c p) => New_any A c p W hs hb hl)
  have H := Lib.hid h
  have HEE := Lib.hid hE
  have hVr := hdV_range hb hl
  obtain ⟨T, hT⟩ : ∃ T, T = rdAt p := ⟨_, rfl⟩
  rw [← hT]
  have HT := Lib.hid hT
  clear h hb hE hT
  go_enter Tryd.func43, Tryd.ntmps43
  go_wp2_with fail
  have b0 : Below w.heap.size w (w.alloc (.cells #[.bool false, .int .i64 0, .bool false, .slice none 0 0, .slice none 0 0] 25)) := (Below.refl _ _).alloc (Nat.le_refl _) _
  refine (C1.out _ (H.out.below b0)).mono ?_
  rintro r w1 ⟨g, rfl, r1, b1⟩
  have hB1 : w.heap.size + 1 ≤ g := by have := r1.le; simpa using this
  have K1 := Lib.hid ((Blk.new w 25 #[.bool false, .int .i64 0, .bool false, .slice none 0 0, .slice none 0 0]).below b1 (by simp))
  have BL1 := Lib.hid (b0.trans (b1.mono (by simp)))
  have CT := Lib.hid (htake_any g _ p 0 w1 r1)
  clear r1 b1 b0 C1
  go_wp2_with fail
  refine CT.out.mono ?_
  rintro r w2 ⟨A2, c2, A3, c3, rfl, o2, o3, r2, g2⟩
  obtain ⟨gh, hgh⟩ : ∃ x, x = w2.heap.size := ⟨_, rfl⟩
  obtain ⟨HV, hHV⟩ : ∃ x : Array Value, x = #[.bool (hdLong p 0), .int .i64 (hdLvl p 0), .bool false, .slice A2 (hdTo p 0).length c2, .slice A3 (hdFr p 0).length c3] := ⟨_, rfl⟩
  have ba : Below w2.heap.size w2 (w2.alloc (.cells HV 25)) := (Below.refl _ _).alloc (Nat.le_refl _) _
  have kh : Blk (w2.alloc (.cells HV 25)) gh 25 HV := by rw [hgh]; exact Blk.new _ _ _
  have hgg : g < gh := by rw [hgh]; exact r2.lt
  have CM := Lib.hid (fun ok => Must_any g _ (hdP p 0) (hdE p 0) ok _ (r2.below ba))
  have k2 := K1.out.grown g2 (by intro h; injection h; omega)
  have K2 := Lib.hid (k2.below ba k2.lt)
  have bl2 := below_grown BL1.out g2 BL1.out.size (by omega)
  have BL2 := Lib.hid (bl2.trans (ba.mono bl2.size))
  have O2 := Lib.hid ((o2.below ba).base_le (show w.heap.size ≤ w1.heap.size from BL1.out.size))
  have O3 := Lib.hid ((o3.below ba).base_le (show w.heap.size ≤ w1.heap.size from BL1.out.size))
  have RD2 := Lib.hid (r2.below ba)
  rw [hHV] at CM K2 BL2 O2 O3 kh RD2
  have KH := Lib.hid kh
  have HGH := Lib.hid hgh.symm
  clear o2 o3 r2 g2 CT K1 BL1 kh ba k2 bl2 hHV HV hgh
  go_wp2_with fail
  rw [HGH.out]
  refine (CM.out _).mono ?_
  rintro r w3 ⟨rfl, r3, g3⟩
  rw [show mustE (hdE p 0) (decide (20 ≤ hdV p 0)) = rdErr p from rfl] at r3
  have hLf : leftV (hdP p 0) 0 = rdLeft p := by rw [rdLeft, HEE.out]
  rw [HEE.out] at r3
  have R3 := Lib.hid r3
  have CE := Lib.hid (Errno_any g _ (hdP p 0) 0 w3 r3)
  have CL := Lib.hid (Left_any g _ (hdP p 0) 0 w3 r3)
  rw [hLf] at CL
  have K3 := Lib.hid (K2.out.grown g3 (by intro h; injection h; omega))
  have BL3 := Lib.hid (below_grown BL2.out g3 BL2.out.size (by omega))
  have KH3 := Lib.hid (KH.out.grown g3 (by intro h; injection h; omega))
  have O4 := Lib.hid (RD2.out.ownGrown O2.out g3)
  have O5 := Lib.hid (RD2.out.ownGrown O3.out g3)
  have hlf : (rdLeft p).length ≤ 70368744177664 := by
    rw [← hLf]; exact r3.small
  have hT0 : -70368744177664 ≤ T ∧ T ≤ 70368744177664 := by rw [HT.out, rdAt]; omega
  clear r3 g3 CM K2 BL2 O2 O3 KH hLf RD2
  go_wp2_with fail
  refine CE.out.mono ?_
  rintro r w4 ⟨rfl, rfl⟩
  go_wp2_with fail
  refine CL.out.mono ?_
  rintro r w4 ⟨A5, c5, rfl, _, rfl⟩
  have hTT : (p.length : Int) - ((rdLeft p).length : Int) = T := HT.out.symm
  have f0 := K3.out.frozen 0
  have f1 := K3.out.frozen 1
  have f2 := K3.out.frozen 2
  have f3 := K3.out.frozen 3
  have f4 := K3.out.frozen 4
  have q0 := K3.out.cell 0
  have q1 := K3.out.cell 1
  have q2 := K3.out.cell 2
  have q3 := K3.out.cell 3
  have q4 := K3.out.cell 4
  have u0 := KH3.out.cell 0
  have u1 := KH3.out.cell 1
  have u2 := KH3.out.cell 2
  have u3 := KH3.out.cell 3
  have u4 := KH3.out.cell 4
  go_wp2_with fail
  show bodyPost _ _ _ _ _ (set5 w3 w.heap.size _ _ _ _ _)
  refine bodyPost_ret (results_row_tmp3 rfl _ _ w.heap.size 25 _ (0, 0) _ rfl (set5_blk K3.out _ _ _ _ _) Tryd.underlying25 rfl (by kernel_rfl)) rfl ?_
  exact ⟨_, _, _, _, rfl, set5_own O4.out K3.out (by decide) _ _ _ _ _, set5_own O5.out K3.out (by decide) _ _ _ _ _, below_set5 BL3.out (Nat.le_refl _) _ _ _ _ _⟩
end Go.Proofs.YtjibbegdieiknaaDoor

namespace Go.Proofs.YtjibbegdieiknaaDoor
open Go.RowKit
set_option linter.unusedVariables false

theorem madeCells_u8 (n : Nat) : madeCells (Value.int .u8 0).cells n = (U8 (List.replicate n 0)).toArray := by
  have h : madeCells (Value.int .u8 0).cells n = (Array.range n).map fun _ => Value.int .u8 0 := by
    unfold madeCells
    refine Array.map_congr_left fun i _ => ?_
    simp [Value.cells, Nat.mod_one]
  rw [h]
  apply Array.ext'
  simp [U8, List.map_const']
theorem mk_u8 (n : Nat) (z z' : Int) (hz : z = n) (hz' : z' = n) (hn : n ≤ 70368744177664) (w : World) :
    (Instr.makeSlice 23 (.int .i64 z) (.int .i64 z')).run Tryd.prog w = .ok (.slice (some ⟨w.heap.size, 0, none⟩) n n) (w.alloc (.cells (U8 (List.replicate n 0)).toArray 5)) := by
  subst hz; subst hz'
  obtain ⟨i0, hi0, hz0, hz1, hz2⟩ := info_parts info_u8
  have hr := run_make (P := Tryd.prog) w 23 5 i0 _ Tryd.underlying23 hi0 hz0 .i64 .i64 (n : Int) (n : Int) (by omega) (by omega) (by rw [hz2]; omega) (by omega)
  simp only [Int.toNat_natCast] at hr
  rw [hr, hz1, Nat.mul_one, madeCells_u8]

/-- A store into a row of bytes. -/
theorem Blk.store_u8 {w : World} {g : Nat} {l : List Int} (h : Blk w g 5 (U8 l).toArray) (i : Nat) (x : Int) : Blk (w.setCell ⟨g, i, none⟩ (.int .u8 x)) g 5 (U8 (l.set i x)).toArray := by
  have := h.set_ i (.int .u8 x)
  simpa [U8, List.map_set] using this
theorem Blk.cell_u8 {w : World} {g : Nat} {l : List Int} (h : Blk w g 5 (U8 l).toArray) {i : Nat} {x : Int} (hx : l[i]? = some x) : w.cell? ⟨g, i, none⟩ = some (.int .u8 x) := by
  rw [h.cell]; simp [U8, hx]

set_option maxRecDepth 100000 in
set_option maxHeartbeats 1600000 in
theorem wide_ok (n s : Int) (k : Nat) (b t : Int) (w : World) (ht : Tab w) (hs : IsSize s k b t) (h0 : 0 ≤ n) (hn : n < b) :
    Calls Tryd.prog 51 #[.int .u64 n, .int .i64 s] w fun e w' =>
      ∃ A' c', e = .returned (.tuple #[.slice A' (wenc n k).length c', .int .i64 0]) ∧ Own w' w.heap.size A' c' (wenc n k) ∧ Below w.heap.size w w' := by
  have hsk : s = k := by rcases hs with h | h | h | h <;> obtain ⟨rfl, rfl, _⟩ := h <;> rfl
  subst hsk
  have hk8 : 1 ≤ k ∧ k ≤ 8 := by unfold IsSize at hs; omega
  have hb : (k : Int) = 1 ∧ b = 64 ∨ (k : Int) = 2 ∧ b = 16384 ∨ (k : Int) = 4 ∧ b = 1073741824 ∨ (k : Int) = 8 ∧ b = 4611686018427387904 := by unfold IsSize at hs; omega
  have htz : (k : Int) = 1 ∧ t = 0 ∨ (k : Int) = 2 ∧ t = 1 ∨ (k : Int) = 4 ∧ t = 2 ∨ (k : Int) = 8 ∧ t = 3 := by unfold IsSize at hs; omega
  have hmk := mk_u8 k k k rfl rfl (by omega)
  have HB := Lib.hid hb
  have HTZ := Lib.hid htz
  have HS := Lib.hid hs
  have hnb : ¬ b ≤ n := by omega
  have HN := Lib.hid hn
  obtain ⟨hk1, hk8⟩ := hk8
  clear hb htz hs hn
  have ways : ((k : Int) == 1) = true ∨ ((k : Int) == 1) = false ∧ ((k : Int) == 2) = true ∨ ((k : Int) == 1) = false ∧ ((k : Int) == 2) = false ∧ ((k : Int) == 4) = true ∨ ((k : Int) == 1) = false ∧ ((k : Int) == 2) = false ∧ ((k : Int) == 4) = false ∧ ((k : Int) == 8) = true := by
    rcases HS.out with h | h | h | h <;> obtain ⟨h, _⟩ := h <;> rw [h] <;> decide
  rcases ways with q1 | ⟨q1, q2⟩ | ⟨q1, q2, q3⟩ | ⟨q1, q2, q3, q4⟩
  all_goals
    go_enter Tryd.func51, Tryd.ntmps51
    go_wp2_with (go_at_call 71; go_must (refine (bound_any k b _ HB.out).mono ?_); rintro e w' ⟨rfl, rfl⟩)
    go_loopw [21] (fun i wr => ∃ j : Nat, j ≤ k ∧ i = .int .i64 j ∧ Blk wr w.heap.size 5 (U8 (List.replicate (k - j) 0 ++ be n j)).toArray ∧ Below w.heap.size w wr) (fun i _ => k - (intOf i).toNat)
    case atStart => exact ⟨0, by omega, rfl, by rw [show List.replicate (k - 0) (0 : Int) ++ be n 0 = List.replicate k 0 by simp [be]]; exact Blk.new w _ _, (Below.refl _ _).alloc (Nat.le_refl _) _⟩
    case round =>
      obtain ⟨j, hj, rfl, hblk, hbel⟩ := hrel
      by_cases hjk : j < k
      · have hcell : wr.cell? ⟨w.heap.size, k - 1 - j, none⟩ = some (.int .u8 0) := hblk.cell_u8 (be_zero n k j hjk)
        have hfr : wr.frozen? ⟨w.heap.size, k - 1 - j, none⟩ = false := hblk.frozen _
        go_wp2
        go_roundw
        case rel =>
          refine ⟨j + 1, by omega, by go_num, ?_, hbel.setCell (Nat.le_refl _) _⟩
          have := hblk.store_u8 (k - 1 - j) (n / 2 ^ (8 * j) % 256)
          rw [pow_shift, be_step n k j hjk, ← pow_shift] at this
          exact this
        case measure => simp [intOf]; omega
      · obtain rfl : j = k := by omega
        obtain ⟨m, hm⟩ : ∃ m, j = m + 1 := ⟨j - 1, by omega⟩
        have hbe : List.replicate (j - j) (0 : Int) ++ be n j = (n / 256 ^ m % 256) :: be n m := by rw [hm]; simp [be]
        rw [hbe] at hblk
        have hcell : wr.cell? ⟨w.heap.size, 0, none⟩ = some (.int .u8 (n / 256 ^ m % 256)) := hblk.cell_u8 rfl
        have hfr : wr.frozen? ⟨w.heap.size, 0, none⟩ = false := hblk.frozen _
        have hsz : w.heap.size < wr.heap.size := hblk.lt
        have htr : Tab wr := ht.below hbel
        have HM := Lib.hid hm
        clear hm hbe
        obtain ⟨x, hx⟩ : ∃ x, x = n / 256 ^ m % 256 := ⟨_, rfl⟩
        rw [← hx] at hblk hcell
        have HX := Lib.hid hx
        clear hx
        go_wp2_with fail
        refine wp_region_still_tail 10 (by kernel_rfl) (by kernel_rfl) ?_
        simp only [List.take_succ_cons, List.take_zero, List.drop_succ_cons, List.drop_zero]
        obtain ⟨w2, hw2⟩ : ∃ w2, w2 = wr.drew := ⟨_, rfl⟩
        have hblk2 : Blk w2 w.heap.size 5 (U8 (x :: be n m)).toArray := by rw [hw2]; exact hblk
        have hbel2 : Below w.heap.size w w2 := by rw [hw2]; exact hbel.drew
        have hcell2 : w2.cell? ⟨w.heap.size, 0, none⟩ = some (.int .u8 x) := hblk2.cell_u8 rfl
        have hfr2 : w2.frozen? ⟨w.heap.size, 0, none⟩ = false := hblk2.frozen _
        have htr2 : Tab w2 := ht.below hbel2
        show wpStill _ _ wr.drew (fun a' => wpList _ _ _ _ a' wr.drew) _ _
        rw [← hw2]
        have hj0 : 0 < j := by omega
        clear hw2 hblk hbel hcell hfr htr hsz
        have hwj : IntKind.u64.wrap (j : Int) = j := by rw [IntKind.wrap_u64]; omega
        have ht03 : 0 ≤ t ∧ t ≤ 3 := by have := HTZ.out; omega
        obtain ⟨ht0, ht3⟩ := ht03
        repeat still_step
        still_call ((tzs_any j t w2 htr2 HTZ.out).mono fun e w' ⟨h1, h2⟩ => ⟨h1, h2.symm⟩)
        repeat still_step
        refine wpStill_nil ?_
        go_wp2
        go_ret2
        have hx2 := top_small HS.out HM.out h0 HN.out
        rw [← HX.out] at hx2
        have hl := wenc_length n j hk1
        have hfin := hblk2.store_u8 0 (bits BinOp.or IntKind.u8 x (t * 64))
        rw [or_tag x t hx2.1 hx2.2 ht0 ht3] at hfin ⊢
        have hw : (x :: be n m).set 0 (x + 64 * t) = wenc n j := by
          rw [List.set_cons_zero, wenc, vtag_of HS.out, HX.out, HM.out]; rfl
        rw [hw] at hfin
        have hown := Own.new hfin (Nat.le_refl _) (by rw [hl]; unfold maxLen; omega)
        rw [hl] at hown ⊢
        exact ⟨_, j, rfl, hown, hbel2.setCell (Nat.le_refl _) _⟩

end Go.Proofs.YtjibbegdieiknaaDoor

namespace Go.Proofs.YtjibbegdieiknaaDoor
open Go.RowKit
set_option linter.unusedVariables false

set_option maxHeartbeats 400000 in
theorem wide_arg (n s : Int) (w : World) (h1 : s ≠ 1) (h2 : s ≠ 2) (h4 : s ≠ 4) (h8 : s ≠ 8) :
    Calls Tryd.prog 51 #[.int .u64 n, .int .i64 s] w fun e w' => e = .returned (.tuple #[.slice none 0 0, .int .i64 1]) ∧ w = w' := by
  have q1 : (s == 1) = false := beq_eq_false_iff_ne.2 h1
  have q2 : (s == 2) = false := beq_eq_false_iff_ne.2 h2
  have q3 : (s == 4) = false := beq_eq_false_iff_ne.2 h4
  have q4 : (s == 8) = false := beq_eq_false_iff_ne.2 h8
  clear h1 h2 h4 h8
  go_enter Tryd.func51, Tryd.ntmps51
  go_wp2
  go_ret2
  exact ⟨rfl, rfl⟩

set_option maxHeartbeats 800000 in
theorem wide_long (n s : Int) (k : Nat) (b t : Int) (w : World) (hs : IsSize s k b t) (hn : b ≤ n) :
    Calls Tryd.prog 51 #[.int .u64 n, .int .i64 s] w fun e w' => e = .returned (.tuple #[.slice none 0 0, .int .i64 3]) ∧ w = w' := by
  have hb : s = 1 ∧ b = 64 ∨ s = 2 ∧ b = 16384 ∨ s = 4 ∧ b = 1073741824 ∨ s = 8 ∧ b = 4611686018427387904 := by unfold IsSize at hs; omega
  have HB := Lib.hid hb
  clear hb
  have ways : (s == 1) = true ∨ (s == 1) = false ∧ (s == 2) = true ∨ (s == 1) = false ∧ (s == 2) = false ∧ (s == 4) = true ∨ (s == 1) = false ∧ (s == 2) = false ∧ (s == 4) = false ∧ (s == 8) = true := by
    rcases hs with h | h | h | h <;> obtain ⟨h, _⟩ := h <;> rw [h] <;> decide
  clear hs
  rcases ways with q1 | ⟨q1, q2⟩ | ⟨q1, q2, q3⟩ | ⟨q1, q2, q3, q4⟩
  all_goals
    go_enter Tryd.func51, Tryd.ntmps51
    go_wp2_with (go_at_call 71; go_must (refine (bound_any s b _ HB.out).mono ?_); rintro e w' ⟨rfl, rfl⟩)
    go_ret2
    exact ⟨rfl, rfl⟩


/-- The size of the shortest encoding. -/
theorem vsize_is (n : Int) (h0 : 0 ≤ n) (h : n < 4611686018427387904) : ∃ k b t, IsSize (vsize n) k b t ∧ n < b ∧ vsize n = k ∧ 1 ≤ k ∧ k ≤ 8 := by
  unfold vsize IsSize
  rcases (show n < 64 ∨ 64 ≤ n ∧ n < 16384 ∨ 16384 ≤ n ∧ n < 1073741824 ∨ 1073741824 ≤ n by omega) with h1 | ⟨h1, h2⟩ | ⟨h1, h2⟩ | h1
  · exact ⟨1, 64, 0, by rw [if_pos h1]; omega, h1, by rw [if_pos h1]; rfl, by omega, by omega⟩
  · exact ⟨2, 16384, 1, by rw [if_neg (by omega), if_pos h2]; omega, h2, by rw [if_neg (by omega), if_pos h2]; rfl, by omega, by omega⟩
  · exact ⟨4, 1073741824, 2, by rw [if_neg (by omega), if_neg (by omega), if_pos h2]; omega, h2, by rw [if_neg (by omega), if_neg (by omega), if_pos h2]; rfl, by omega, by omega⟩
  · exact ⟨8, 4611686018427387904, 3, by rw [if_neg (by omega), if_neg (by omega), if_neg (by omega), if_pos h]; omega, h, by rw [if_neg (by omega), if_neg (by omega), if_neg (by omega), if_pos h]; rfl, by omega, by omega⟩
/-- The shortest encoding. -/
def venc (n : Int) : List Int := wenc n (vsize n).toNat


/-- Begins l with a complete and shortest encoding? -/
def vleast (l : List Int) : Bool := decide (0 < rdS l) && decide ((rdS l : Int) = vsize (rdN l))
theorem rdN_nonneg (l : List Int) (hb : Bytes l) : 0 ≤ rdN l := by
  match l with
  | [] => simp [rdN]
  | x :: r =>
    simp only [rdN]
    split
    · omega
    · have hx := hb x (by simp)
      exact (vfold_bd _ (x % 64) 64 (Bytes.take (fun y hy => hb y (by simp [hy])) _) (by omega) (by omega)).1


theorem venc_le (n : Int) (h0 : 0 ≤ n) (hn : n < 4611686018427387904) : 1 ≤ (venc n).length ∧ (venc n).length ≤ 8 ∧ Bytes (venc n) := by
  obtain ⟨k, b, t, hs, hb, hk, hk1, hk8⟩ := vsize_is n h0 hn
  have hv : venc n = wenc n k := by rw [venc, hk]; rfl
  rw [hv, wenc_length n k hk1]
  rw [hk] at hs
  exact ⟨hk1, hk8, wenc_bytes hs h0 hb⟩
/-- A text's bytes: its length, and the text. -/
def vtext (l : List Int) : List Int := venc l.length ++ l

end Go.Proofs.YtjibbegdieiknaaDoor

namespace Go.Proofs.YtjibbegdieiknaaDoor
open Go.RowKit
set_option linter.unusedVariables false

/-- A text at the beginning of l, at most 'most' bytes long: the error (0: none), the text, what stands behind. -/
def vtkE (l : List Int) (most : Int) : Int := if rdS l = 0 then 2 else if most < 0 ∨ most < rdN l then 3 else if ((l.drop (rdS l)).length : Int) < rdN l then 2 else 0
def vtkT (l : List Int) : List Int := (l.drop (rdS l)).take (rdN l).toNat
def vtkR (l : List Int) : List Int := (l.drop (rdS l)).drop (rdN l).toNat



end Go.Proofs.YtjibbegdieiknaaDoor

namespace Go.Proofs.YtjibbegdieiknaaDoor
open Go.RowKit
set_option linter.unusedVariables false

/-- A literal of one byte is a row of the call's own. -/
theorem own_lit1 (w : World) (x : Int) {base : Nat} (hb : base ≤ w.heap.size) : Own (w.alloc (.cells #[.int .u8 x] 5)) base (some ⟨w.heap.size, 0, none⟩) 1 [x] :=
  Own.new (l := [x]) (Blk.new w _ _) hb (by simp [maxLen])
theorem Own.blk {w : World} {base c : Nat} {A : Option Addr} {x : Int} {l : List Int} (h : Own w base A c (x :: l)) : ∃ g cur, A = some ⟨g, 0, none⟩ ∧ base ≤ g ∧ Blk w g 5 cur ∧ cur[0]? = some (.int .u8 x) := by
  rcases h.2 with ⟨_, h2⟩ | ⟨g, cap, cur, hv, hg, hh, h3, h4, h5, h6⟩
  · simp at h2
  · refine ⟨g, cur, by injection hv, hg, hh, ?_⟩
    have := congrArg (fun l => l[0]?) h6
    simp only [List.getElem?_take, U8, List.map_cons, List.getElem?_cons_zero, List.length_cons] at this
    rw [if_pos (by omega)] at this
    simpa using this
/-- A store into the call's own row. -/
theorem Own.store {w : World} {base c g : Nat} {l : List Int} (h : Own w base (some ⟨g, 0, none⟩) c l) (i : Nat) (x : Int) (hi : i < l.length) : Own (w.setCell ⟨g, i, none⟩ (.int .u8 x)) base (some ⟨g, 0, none⟩) c (l.set i x) := by
  obtain ⟨h1, h2⟩ := h
  unfold Own
  refine ⟨by simp [U8], ?_⟩
  rcases h2 with ⟨h2, _⟩ | ⟨g', cap, cur, hv, hg, hh, h3, h4, h5, h6⟩
  · cases h2
  · injection hv with e1 e2 e3
    injection e1 with e1
    injection e1 with e1
    subst e1; subst e3
    refine .inr ⟨g, c, cur.setIfInBounds i (.int .u8 x), by simp, hg, (Blk.set_ (t := 5) hh i _), by simpa using h3, h4, by simpa using h5, ?_⟩
    rw [Array.toList_setIfInBounds, List.length_set, List.take_set, h6, U8, U8, List.map_set]




end Go.Proofs.YtjibbegdieiknaaDoor

namespace Go.Proofs.YtjibbegdieiknaaDoor
open Go.RowKit
set_option linter.unusedVariables false

theorem vlen_ways (x : Int) (h0 : 0 ≤ x) (h1 : x < 256) : x / 64 = 0 ∧ vlen x = 1 ∨ x / 64 = 1 ∧ vlen x = 2 ∨ x / 64 = 2 ∧ vlen x = 4 ∨ x / 64 = 3 ∧ vlen x = 8 := by
  unfold vlen
  (repeat' split) <;> omega

theorem vlen_ways' (x z : Int) (s : Nat) (h0 : 0 ≤ x) (h1 : x < 256) (hs : s = vlen x) (hz : z = s) : x / 64 = 0 ∧ s = 1 ∧ z = 1 ∨ x / 64 = 1 ∧ s = 2 ∧ z = 2 ∨ x / 64 = 2 ∧ s = 4 ∧ z = 4 ∨ x / 64 = 3 ∧ s = 8 ∧ z = 8 := by
  have := vlen_ways x h0 h1
  omega
end Go.Proofs.YtjibbegdieiknaaDoor
