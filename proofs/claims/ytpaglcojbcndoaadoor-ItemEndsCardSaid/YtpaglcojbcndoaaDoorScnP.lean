/-
  The parser of package scan, over bytes that lie outside the block G (made by mkScnO.py).
-/
import Derived.Test.YtpaglcojbcndoaaDoorScnO
import Derived.Test.YtpaglcojbcndoaaDoorPrsC
namespace Go.Proofs.YtpaglcojbcndoaaDoor
open Go.RowKit
set_option linter.unusedVariables false
set_option linter.unusedSimpArgs false
/-- The parser at gp over the reader at g: what is left, the error for bytes that lack. -/
structure PrsO (G : Nat) (w : World) (gp g B : Nat) (p : List Int) (L : Int) : Prop where
  pb : Blk w gp 93 #[.pointer (some ⟨g, 0, none⟩), .int .i64 L]
  rd : RdrO G w g B p 0
  le : B ≤ gp
section
variable {w w' : World} {G gp g B : Nat} {p : List Int} {L : Int}
theorem RdrO.ne_p {cs : Array Value} {e : Int} (h : RdrO G w g B p e) (hb : Blk w gp 93 cs) : gp ≠ g := by
  obtain ⟨A, c, k, _⟩ := h.blk
  exact hb.ne_ k (by decide)
theorem PrsO.below (h : PrsO G w gp g B p L) (hb : Below w.heap.size w w') : PrsO G w' gp g B p L := ⟨h.pb.below hb h.pb.lt, h.rd.below hb, h.le⟩
theorem PrsO.drew (h : PrsO G w gp g B p L) : PrsO G w.drew gp g B p L := ⟨h.pb.drew, h.rd.drew, h.le⟩
theorem PrsO.to {q : List Int} (h : PrsO G w gp g B p L) (hr : RdrO G w' g B q 0) (hg : w.grownBy w' (some g)) : PrsO G w' gp g B q L :=
  ⟨h.pb.grown hg (fun e => by injection e with e; exact h.rd.ne_p h.pb e), hr, h.le⟩
end
theorem check_okO {G : Nat} (gp g B : Nat) (p : List Int) (L : Int) (w : World) (h : PrsO G w gp g B p L) :
    Calls Tryd.prog 48 #[.pointer (some ⟨gp, 0, none⟩)] w fun r w' => r = .returned (.tuple #[]) ∧ w = w' := by
  have c0 := h.pb.cell 0
  simp at c0
  have C := Lib.hid (Errno_anyO g B p 0 w h.rd)
  clear h
  go_enter Tryd.func48, Tryd.ntmps48
  go_wp2_with fail
  refine C.out.mono ?_
  rintro e w1 ⟨rfl, rfl⟩
  go_wp2_with fail
  exact bodyPost_end (v := .tuple #[]) (results_none (by rfl) _ _ _) (by rfl) ⟨rfl, rfl⟩
theorem check_noO {G : Nat} (gp g B : Nat) (p : List Int) (L x : Int) (w : World) (hp : Blk w gp 93 #[.pointer (some ⟨g, 0, none⟩), .int .i64 L]) (h : RdrO G w g B p x) (hx : x ≠ 0) :
    Calls Tryd.prog 48 #[.pointer (some ⟨gp, 0, none⟩)] w fun r w' => r = dies (if x = 2 then L else x) ∧ w = w' := by
  have c0 := hp.cell 0
  have c1 := hp.cell 1
  simp at c0 c1
  have C := Lib.hid (Errno_anyO g B p x w h)
  have h0 : (x == 0) = false := by simpa using hx
  clear h hp
  by_cases h2 : x = 2
  · subst h2
    go_enter Tryd.func48, Tryd.ntmps48
    go_wp2_with fail
    refine C.out.mono ?_
    rintro e w1 ⟨rfl, rfl⟩
    go_wp2_with fail
    exact ⟨rfl, rfl, rfl⟩
  · have h3 : (x == 2) = false := by simpa using h2
    rw [if_neg h2]
    go_enter Tryd.func48, Tryd.ntmps48
    go_wp2_with fail
    refine C.out.mono ?_
    rintro e w1 ⟨rfl, rfl⟩
    go_wp2_with fail
    exact ⟨rfl, rfl, rfl⟩
section
variable {G gp g B : Nat} {p : List Int} {L : Int} {w : World}
theorem PMust_okO (h : PrsO G w gp g B p L) :
    Calls Tryd.prog 28 #[.pointer (some ⟨gp, 0, none⟩), .bool true] w fun r w' => r = .returned (.tuple #[]) ∧ PrsO G w' gp g B p L ∧ w.grownBy w' (some g) := by
  have c0 := h.pb.cell 0
  simp at c0
  have H := Lib.hid h
  have C := Lib.hid (Must_anyO g B p 0 true w h.rd)
  clear h
  go_enter Tryd.func28, Tryd.ntmps28
  go_wp2_with fail
  refine C.out.mono ?_
  rintro e w1 ⟨rfl, hr, hg⟩
  have H1 := Lib.hid (H.out.to hr hg)
  have G1 := Lib.hid hg
  clear hr hg
  go_wp2_with fail
  refine (check_okO gp g B p L w1 H1.out).mono ?_
  rintro e w2 ⟨rfl, rfl⟩
  go_wp2_with fail
  exact bodyPost_end (v := .tuple #[]) (results_none (by rfl) _ _ _) (by rfl) ⟨rfl, H1.out, G1.out⟩
theorem PMust_noO (h : PrsO G w gp g B p L) :
    Calls Tryd.prog 28 #[.pointer (some ⟨gp, 0, none⟩), .bool false] w fun r w' => r = dies 4 ∧ w.grownBy w' (some g) := by
  have c0 := h.pb.cell 0
  simp at c0
  have H := Lib.hid h
  have C := Lib.hid (Must_anyO g B p 0 false w h.rd)
  clear h
  go_enter Tryd.func28, Tryd.ntmps28
  go_wp2_with fail
  refine C.out.mono ?_
  rintro e w1 ⟨rfl, hr, hg⟩
  have hk := H.out.pb.grown hg (fun e => by injection e with e; exact H.out.rd.ne_p H.out.pb e)
  have C2 := Lib.hid (check_noO gp g B p L 4 w1 hk hr (by decide))
  have G1 := Lib.hid hg
  clear hr hg hk
  go_wp2_with fail
  refine C2.out.mono ?_
  rintro e w2 ⟨rfl, rfl⟩
  exact ⟨rfl, rfl, G1.out⟩
theorem PNumber_okO (h : PrsO G w gp g B p L) (h0 : rdS p ≠ 0) :
    Calls Tryd.prog 29 #[.pointer (some ⟨gp, 0, none⟩)] w fun r w' => r = .returned (.int .u64 (rdN p)) ∧ PrsO G w' gp g B (p.drop (rdS p)) L ∧ w.grownBy w' (some g) := by
  have c0 := h.pb.cell 0
  simp at c0
  have H := Lib.hid h
  have C := Number_anyO g B p 0 w h.rd
  rw [numN, if_pos ⟨rfl, h0⟩, numL, if_pos rfl, numE, if_neg (by simp [h0])] at C
  have C := Lib.hid C
  clear h
  go_enter Tryd.func29, Tryd.ntmps29
  go_wp2_with fail
  refine C.out.mono ?_
  rintro e w1 ⟨rfl, hr, hg⟩
  have H1 := Lib.hid (H.out.to hr hg)
  have G1 := Lib.hid hg
  clear hr hg
  go_wp2_with fail
  refine (check_okO gp g B _ L w1 H1.out).mono ?_
  rintro e w2 ⟨rfl, rfl⟩
  go_wp2_with fail
  go_ret
  exact ⟨rfl, H1.out, G1.out⟩
theorem PNumber_noO (h : PrsO G w gp g B p L) (h0 : rdS p = 0) :
    Calls Tryd.prog 29 #[.pointer (some ⟨gp, 0, none⟩)] w fun r w' => r = dies L ∧ w.grownBy w' (some g) := by
  have c0 := h.pb.cell 0
  simp at c0
  have H := Lib.hid h
  have C := Number_anyO g B p 0 w h.rd
  rw [numN, if_neg (by simp [h0]), numL, if_pos rfl, numE, if_pos ⟨rfl, h0⟩] at C
  have C := Lib.hid C
  clear h
  go_enter Tryd.func29, Tryd.ntmps29
  go_wp2_with fail
  refine C.out.mono ?_
  rintro e w1 ⟨rfl, hr, hg⟩
  have hk := H.out.pb.grown hg (fun e => by injection e with e; exact H.out.rd.ne_p H.out.pb e)
  have C2 := Lib.hid (check_noO gp g B _ L 2 w1 hk hr (by decide))
  have G1 := Lib.hid hg
  clear hr hg hk
  go_wp2_with fail
  refine C2.out.mono ?_
  rintro e w2 ⟨rfl, rfl⟩
  exact ⟨rfl, rfl, G1.out⟩
theorem PByte_okO {x : Int} {r : List Int} (h : PrsO G w gp g B (x :: r) L) :
    Calls Tryd.prog 30 #[.pointer (some ⟨gp, 0, none⟩)] w fun e w' => e = .returned (.int .u8 x) ∧ PrsO G w' gp g B r L ∧ w.grownBy w' (some g) := by
  have c0 := h.pb.cell 0
  simp at c0
  have H := Lib.hid h
  have C := Byte_anyO g B (x :: r) 0 w h.rd
  rw [byteV, if_pos rfl, tkL, if_pos ⟨rfl, by simp⟩, needE, if_neg (by simp)] at C
  have C := Lib.hid C
  clear h
  go_enter Tryd.func30, Tryd.ntmps30
  go_wp2_with fail
  refine C.out.mono ?_
  rintro e w1 ⟨rfl, hr, hg⟩
  have H1 := Lib.hid (H.out.to (q := r) hr hg)
  have G1 := Lib.hid hg
  clear hr hg
  go_wp2_with fail
  refine (check_okO gp g B _ L w1 H1.out).mono ?_
  rintro e w2 ⟨rfl, rfl⟩
  go_wp2_with fail
  go_ret
  exact ⟨rfl, H1.out, G1.out⟩
theorem PByte_noO (h : PrsO G w gp g B [] L) :
    Calls Tryd.prog 30 #[.pointer (some ⟨gp, 0, none⟩)] w fun e w' => e = dies L ∧ w.grownBy w' (some g) := by
  have c0 := h.pb.cell 0
  simp at c0
  have H := Lib.hid h
  have C := Byte_anyO g B [] 0 w h.rd
  rw [byteV, if_pos rfl, tkL, if_neg (by simp), needE, if_pos ⟨rfl, by simp⟩] at C
  have C := Lib.hid C
  clear h
  go_enter Tryd.func30, Tryd.ntmps30
  go_wp2_with fail
  refine C.out.mono ?_
  rintro e w1 ⟨rfl, hr, hg⟩
  have hk := H.out.pb.grown hg (fun e => by injection e with e; exact H.out.rd.ne_p H.out.pb e)
  have C2 := Lib.hid (check_noO gp g B _ L 2 w1 hk hr (by decide))
  have G1 := Lib.hid hg
  clear hr hg hk
  go_wp2_with fail
  refine C2.out.mono ?_
  rintro e w2 ⟨rfl, rfl⟩
  exact ⟨rfl, rfl, G1.out⟩
theorem PBytes_okO (n : Nat) (h : PrsO G w gp g B p L) (hn : n ≤ p.length) :
    Calls Tryd.prog 63 #[.pointer (some ⟨gp, 0, none⟩), .int .u64 n] w fun e w' => ∃ A' c', e = .returned (.slice A' n c') ∧ Own w' w.heap.size A' c' (p.take n) ∧ PrsO G w' gp g B (p.drop n) L ∧ w.grownBy w' (some g) := by
  have c0 := h.pb.cell 0
  simp at c0
  have hs := h.rd.small
  have H := Lib.hid h
  have C := RBytes_anyO g B p 0 n w h.rd (by omega)
  rw [tkO, if_pos ⟨rfl, hn⟩, tkL, if_pos ⟨rfl, hn⟩, needE, if_neg (by omega), show (p.take n).length = n by simp [hn]] at C
  have C := Lib.hid C
  clear h
  go_enter Tryd.func63, Tryd.ntmps63
  go_wp2_with fail
  refine C.out.mono ?_
  rintro e w1 ⟨A', c', rfl, ho, hr, hg⟩
  have H1 := Lib.hid (H.out.to hr hg)
  have G1 := Lib.hid hg
  have O1 := Lib.hid ho
  clear hr hg ho
  go_wp2_with fail
  refine (check_okO gp g B _ L w1 H1.out).mono ?_
  rintro e w2 ⟨rfl, rfl⟩
  go_wp2_with fail
  go_ret
  exact ⟨A', c', rfl, O1.out, H1.out, G1.out⟩
theorem PBytes_noO (n : Nat) (h : PrsO G w gp g B p L) (hn : p.length < n) (hn2 : n < 18446744073709551616) :
    Calls Tryd.prog 63 #[.pointer (some ⟨gp, 0, none⟩), .int .u64 n] w fun e w' => e = dies L ∧ w.grownBy w' (some g) := by
  have c0 := h.pb.cell 0
  simp at c0
  have H := Lib.hid h
  have C := RBytes_anyO g B p 0 n w h.rd hn2
  rw [tkO, if_neg (by omega), tkL, if_neg (by omega), needE, if_pos ⟨rfl, hn⟩] at C
  have C := Lib.hid C
  clear h
  go_enter Tryd.func63, Tryd.ntmps63
  go_wp2_with fail
  refine C.out.mono ?_
  rintro e w1 ⟨A', c', rfl, ho, hr, hg⟩
  have hk := H.out.pb.grown hg (fun e => by injection e with e; exact H.out.rd.ne_p H.out.pb e)
  have C2 := Lib.hid (check_noO gp g B _ L 2 w1 hk hr (by decide))
  have G1 := Lib.hid hg
  clear hr hg hk ho
  go_wp2_with fail
  refine C2.out.mono ?_
  rintro e w2 ⟨rfl, rfl⟩
  exact ⟨rfl, rfl, G1.out⟩
theorem PLeft_anyO (h : PrsO G w gp g B p L) :
    Calls Tryd.prog 31 #[.pointer (some ⟨gp, 0, none⟩)] w fun e w' => ∃ A' c', e = .returned (.slice A' p.length c') ∧ SlBO G w B A' c' p ∧ w = w' := by
  have c0 := h.pb.cell 0
  simp at c0
  have C := Left_anyO g B p 0 w h.rd
  rw [show leftV p 0 = p from if_pos rfl] at C
  have C := Lib.hid C
  clear h
  go_enter Tryd.func31, Tryd.ntmps31
  go_wp2_with fail
  refine C.out.mono ?_
  rintro e w1 ⟨A', c', rfl, hs, rfl⟩
  have S := Lib.hid hs
  clear hs
  go_wp2_with fail
  go_ret
  exact ⟨A', c', rfl, S.out, rfl⟩
end
section
variable {G gp g B : Nat} {p : List Int} {L : Int} {w : World}
set_option maxHeartbeats 1000000 in
theorem PText_okO (m : Nat) (h : PrsO G w gp g B p L) (h0 : rdS p ≠ 0) (h1 : rdN p ≤ m) (h2 : rdN p ≤ (p.drop (rdS p)).length) :
    Calls Tryd.prog 56 #[.pointer (some ⟨gp, 0, none⟩), .int .u64 m] w fun e w' => ∃ A' c' B', e = .returned (.slice A' (rdN p).toNat c') ∧ w.heap.size ≤ B' ∧ Own w' B' A' c' ((p.drop (rdS p)).take (rdN p).toNat) ∧ PrsO G w' gp g B ((p.drop (rdS p)).drop (rdN p).toNat) L ∧ w.grownBy w' (some g) := by
  have C := Lib.hid (PNumber_okO h h0)
  have hn := rdN_nonneg p h.rd.bytes
  obtain ⟨N, hN⟩ : ∃ N, N = (rdN p).toNat := ⟨_, rfl⟩
  have eN : rdN p = (N : Int) := by omega
  obtain ⟨Q, hQ⟩ : ∃ Q, Q = p.drop (rdS p) := ⟨_, rfl⟩
  rw [eN, ← hQ] at C
  rw [eN] at h1
  rw [eN, ← hQ] at h2
  rw [← hN, ← hQ]
  have hd : decide ((N : Int) ≤ (m : Int)) = true := by simp; omega
  have hd2 : decide (N ≤ m) = true := by simp; omega
  have h3 : N ≤ Q.length := by omega
  clear h h0 hn hN eN hQ h1 h2
  go_enter Tryd.func56, Tryd.ntmps56
  go_wp2_with fail
  refine C.out.mono ?_
  rintro e w1 ⟨rfl, hp1, g1⟩
  have G1 := Lib.hid g1
  have M := Lib.hid (PMust_okO hp1)
  clear hp1 g1
  go_wp2_with fail
  refine M.out.mono ?_
  rintro e w2 ⟨rfl, hp2, g2⟩
  have G2 := Lib.hid (only_then G1.out g2)
  have Y := Lib.hid (PBytes_okO N hp2 h3)
  have hz := G2.out.size
  clear hp2 g2
  go_wp2_with fail
  refine Y.out.mono ?_
  rintro e w3 ⟨A', c', rfl, ho, hp3, g3⟩
  have G3 := Lib.hid (only_then G2.out g3)
  have O := Lib.hid ho
  have P := Lib.hid hp3
  clear ho hp3 g3
  go_wp2_with fail
  go_ret
  exact ⟨A', c', w2.heap.size, rfl, hz, O.out, P.out, G3.out⟩
theorem PText_no1O (m : Nat) (h : PrsO G w gp g B p L) (h0 : rdS p = 0) :
    Calls Tryd.prog 56 #[.pointer (some ⟨gp, 0, none⟩), .int .u64 m] w fun e w' => e = dies L ∧ w.grownBy w' (some g) := by
  have C := Lib.hid (PNumber_noO h h0)
  clear h h0
  go_enter Tryd.func56, Tryd.ntmps56
  go_wp2_with fail
  refine C.out.mono ?_
  rintro e w1 ⟨rfl, g1⟩
  exact ⟨rfl, rfl, g1⟩
theorem PText_no2O (m : Nat) (h : PrsO G w gp g B p L) (h0 : rdS p ≠ 0) (h1 : (m : Int) < rdN p) :
    Calls Tryd.prog 56 #[.pointer (some ⟨gp, 0, none⟩), .int .u64 m] w fun e w' => e = dies 4 ∧ w.grownBy w' (some g) := by
  have C := Lib.hid (PNumber_okO h h0)
  obtain ⟨N, hN⟩ : ∃ N, N = rdN p := ⟨_, rfl⟩
  rw [← hN] at C h1
  have hd : decide (N ≤ (m : Int)) = false := by simp; omega
  clear h h0 hN
  go_enter Tryd.func56, Tryd.ntmps56
  go_wp2_with fail
  refine C.out.mono ?_
  rintro e w1 ⟨rfl, hp1, g1⟩
  have G1 := Lib.hid g1
  have M := Lib.hid (PMust_noO hp1)
  clear hp1 g1
  go_wp2_with fail
  refine M.out.mono ?_
  rintro e w2 ⟨rfl, g2⟩
  exact ⟨rfl, rfl, only_then G1.out g2⟩
set_option maxHeartbeats 1000000 in
theorem PText_no3O (m : Nat) (h : PrsO G w gp g B p L) (h0 : rdS p ≠ 0) (h1 : rdN p ≤ m) (hm : m < 18446744073709551616) (h2 : (p.drop (rdS p)).length < rdN p) :
    Calls Tryd.prog 56 #[.pointer (some ⟨gp, 0, none⟩), .int .u64 m] w fun e w' => e = dies L ∧ w.grownBy w' (some g) := by
  have C := Lib.hid (PNumber_okO h h0)
  have hn := rdN_nonneg p h.rd.bytes
  obtain ⟨N, hN⟩ : ∃ N, N = (rdN p).toNat := ⟨_, rfl⟩
  have eN : rdN p = (N : Int) := by omega
  obtain ⟨Q, hQ⟩ : ∃ Q, Q = p.drop (rdS p) := ⟨_, rfl⟩
  rw [eN, ← hQ] at C
  rw [eN] at h1
  rw [eN, ← hQ] at h2
  have hd : decide ((N : Int) ≤ (m : Int)) = true := by simp; omega
  have hd2 : decide (N ≤ m) = true := by simp; omega
  have h3 : Q.length < N := by omega
  have h4 : N < 18446744073709551616 := by omega
  clear h h0 hn hN eN hQ h1 h2
  go_enter Tryd.func56, Tryd.ntmps56
  go_wp2_with fail
  refine C.out.mono ?_
  rintro e w1 ⟨rfl, hp1, g1⟩
  have G1 := Lib.hid g1
  have M := Lib.hid (PMust_okO hp1)
  clear hp1 g1
  go_wp2_with fail
  refine M.out.mono ?_
  rintro e w2 ⟨rfl, hp2, g2⟩
  have G2 := Lib.hid (only_then G1.out g2)
  have Y := Lib.hid (PBytes_noO N hp2 h3 h4)
  clear hp2 g2
  go_wp2_with fail
  refine Y.out.mono ?_
  rintro e w3 ⟨rfl, g3⟩
  exact ⟨rfl, rfl, only_then G2.out g3⟩
end
section
variable {G gp g B : Nat} {p q : List Int} {L : Int} {w w' : World}
theorem PNewO_any (A : Option Addr) (c B : Nat) (p : List Int) (L : Int) (w : World) (h : SlBO G w B A c p) (hB : B ≤ w.heap.size) (hb : Bytes p) (hl : p.length ≤ 70368744177664) :
    Calls Tryd.prog 27 #[.slice A p.length c, .int .i64 L] w fun r w' => ∃ gp g, r = .returned (.pointer (some ⟨gp, 0, none⟩)) ∧ PrsO G w' gp g B p L ∧ w.heap.size ≤ g ∧ w.heap.size ≤ gp ∧ Below w.heap.size w w' := by
  have CN : Calls Tryd.prog 46 #[.slice A p.length c] w fun r w' => ∃ g, r = .returned (.pointer (some ⟨g, 0, none⟩)) ∧ RdrO G w' g B p 0 ∧ w.heap.size ≤ g ∧ Below w.heap.size w w' := by
    have H := Lib.hid h
    have HB := Lib.hid hb
    clear h hb
    go_enter Tryd.func46, Tryd.ntmps46
    go_wp2
    go_ret
    refine ⟨_, rfl, RdrO.mk_ (A := A) (c := c) (n := p.length) (Blk.new w _ _) rfl ⟨Reads.alloc H.out.rd hB _, H.out.le, H.out.max, H.out.nil⟩ HB.out hB hl, Nat.le_refl _, (Below.refl _ _).alloc (Nat.le_refl _) _⟩
  have C := Lib.hid CN
  clear h hb CN
  go_enter Tryd.func27, Tryd.ntmps27
  go_wp2_with fail
  refine C.out.mono ?_
  rintro e w1 ⟨g, rfl, hr, hg, hb1⟩
  have R := Lib.hid hr
  have BB := Lib.hid hb1
  have hz := hb1.size
  clear hr hb1
  go_wp2_with fail
  go_ret
  exact ⟨w1.heap.size, g, rfl, ⟨Blk.new _ _ _, R.out.below ((Below.refl _ _).alloc (Nat.le_refl _) _), by omega⟩, hg, hz, BB.out.alloc hz _⟩
/-- A store into a block that the bytes do not lie in. -/
theorem RdrO.setG {e : Int} {X : Nat} (h : RdrO G w g B p e) (hx : X ≠ G) (hg : X ≠ g) (i : Nat) (u : Value) : RdrO G (w.setCell ⟨X, i, none⟩ u) g B p e := by
  obtain ⟨A, c, k, h1, h2, h3, h4⟩ := h.blk
  refine ⟨⟨A, c, k.far (p := ⟨X, i, none⟩) (Ne.symm hg) u, h1, h2, ⟨h3.1, fun hn => ?_⟩, h4⟩, h.bytes, h.le, h.small⟩
  obtain ⟨ad, e1, hlt, hc⟩ := h3.2 hn
  refine ⟨ad, e1, hlt, fun j u' hu => ?_⟩
  rw [← hc j u' hu]
  exact World.cell?_of_block (a := ad.add j) (Below.heap_setCell w ⟨X, i, none⟩ u (ad.add j).block (by rw [block_of_add, h4.2 ad e1]; exact Ne.symm hx))
theorem PrsO.setG {X : Nat} (h : PrsO G w gp g B p L) (hx : X ≠ G) (h1 : X ≠ g) (h2 : X ≠ gp) (i : Nat) (u : Value) : PrsO G (w.setCell ⟨X, i, none⟩ u) gp g B p L :=
  ⟨h.pb.far (p := ⟨X, i, none⟩) (Ne.symm h2) u, h.rd.setG hx h1 i u, h.le⟩
theorem PrsO.set_ {gm : Nat} (h : PrsO G w gp g B p L) (h1 : gm ≠ g) (h2 : gm ≠ gp) (hB : B ≤ gm) (i : Nat) (u : Value) : PrsO G (w.setCell ⟨gm, i, none⟩ u) gp g B p L := by
  have hg : w.grownBy (w.setCell ⟨gm, i, none⟩ u) (some gm) := only_set (only_refl w (some gm)) (p := ⟨gm, i, none⟩) rfl u
  have hl := h.rd.lt
  have hle := h.rd.le
  obtain ⟨A, c, kb, e1, e2, e3, e4⟩ := h.rd.blk
  exact ⟨h.pb.grown hg (fun e => by injection e with e; exact h2 e.symm), ⟨⟨A, c, kb.grown hg (fun e => by injection e with e; exact h1 e.symm), e1, e2, e3.grown hg (by omega) (fun r hr => by injection hr with hr; omega), e4⟩, h.rd.bytes, h.rd.le, h.rd.small⟩, h.le⟩
end
end Go.Proofs.YtpaglcojbcndoaaDoor
