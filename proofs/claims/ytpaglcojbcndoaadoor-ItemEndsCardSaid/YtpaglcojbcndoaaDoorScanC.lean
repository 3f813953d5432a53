/-
  The reader: New, Left, Byte, Bytes, Number.
-/
import Derived.Test.YtpaglcojbcndoaaDoorScanB
namespace Go.Proofs.YtpaglcojbcndoaaDoor
open Go.RowKit
set_option linter.unusedVariables false

theorem only_drew1 {a w : World} {row : Option Nat} (h : a.grownBy w row) : a.grownBy w.drew row := ⟨h.os, h.tape, h.output, h.size, h.block⟩
theorem SlB.rd_ {w : World} {B : Nat} {A : Option Addr} {c : Nat} {l : List Int} (h : SlB w B A c l) (hB : B ≤ w.heap.size) : Rd w A l := Reads.more h.rd hB

theorem New_any (A : Option Addr) (c : Nat) (p : List Int) (w : World) (h : Sl w A c p) (hb : Bytes p) (hl : p.length ≤ 70368744177664) :
    Calls Tryd.prog 46 #[.slice A p.length c] w fun r w' => ∃ g, r = .returned (.pointer (some ⟨g, 0, none⟩)) ∧ Rdr w' g w.heap.size p 0 ∧ Below w.heap.size w w' := by
  have H := Lib.hid h
  have HB := Lib.hid hb
  clear h hb
  go_enter Tryd.func46, Tryd.ntmps46
  go_wp2
  go_ret
  refine ⟨_, rfl, Rdr.mk_ (A := A) (c := c) (n := p.length) (Blk.new w _ _) rfl ⟨Reads.alloc H.out.rd (Nat.le_refl _) _, H.out.le, H.out.max, H.out.nil⟩ HB.out (Nat.le_refl _) hl, (Below.refl _ _).alloc (Nat.le_refl _) _⟩

def leftV (p : List Int) (e : Int) : List Int := if e = 0 then p else []
theorem Left_any (g B : Nat) (p : List Int) (e : Int) (w : World) (h : Rdr w g B p e) :
    Calls Tryd.prog 51 #[.pointer (some ⟨g, 0, none⟩)] w fun r w' => ∃ A' c', r = .returned (.slice A' (leftV p e).length c') ∧ SlB w B A' c' (leftV p e) ∧ w = w' := by
  obtain ⟨A, c, k, sl⟩ := h.sl
  have c1 := k.cell 1
  have c0 := k.cell 0
  have S := Lib.hid sl
  clear sl k h
  by_cases h0 : e = 0
  · subst h0
    rw [show leftV p 0 = p from if_pos rfl]
    go_enter Tryd.func51, Tryd.ntmps51
    go_wp2
    go_ret
    exact ⟨A, c, rfl, S.out, rfl⟩
  · have hz : (e == 0) = false := by simpa using h0
    rw [show leftV p e = [] from if_neg h0]
    go_enter Tryd.func51, Tryd.ntmps51
    go_wp2
    go_ret
    exact ⟨none, 0, rfl, SlB.none_ _ _, rfl⟩

def byteV (p : List Int) (e : Int) : Int := if e = 0 then p.headD 0 else 0
theorem Byte_any (g B : Nat) (p : List Int) (e : Int) (w : World) (h : Rdr w g B p e) :
    Calls Tryd.prog 50 #[.pointer (some ⟨g, 0, none⟩)] w fun r w' => r = .returned (.int .u8 (byteV p e)) ∧ Rdr w' g B (tkL p e 1) (needE e p.length 1) ∧ w.grownBy w' (some g) := by
  have CT := Lib.hid (take_any g B p e 1 w h (by omega))
  have hB := h.le
  have hlt := h.lt
  by_cases hok : e = 0 ∧ 1 ≤ p.length
  · obtain ⟨rfl, hle⟩ := hok
    obtain ⟨x, r, rfl⟩ : ∃ x r, p = x :: r := by cases p with | nil => simp at hle | cons x r => exact ⟨x, r, rfl⟩
    have e1 : tkO (x :: r) 0 1 = [x] := by rw [tkO, if_pos ⟨rfl, hle⟩]; rfl
    rw [show byteV (x :: r) 0 = x from rfl]
    rw [e1] at CT
    obtain ⟨L, hL⟩ : ∃ L, L = tkL (x :: r) 0 1 := ⟨_, rfl⟩
    obtain ⟨E, hE⟩ : ∃ E, E = needE 0 (x :: r).length 1 := ⟨_, rfl⟩
    rw [← hL, ← hE] at CT ⊢
    clear hL hE h e1 hle
    go_enter Tryd.func50, Tryd.ntmps50
    go_wp2_with fail
    refine CT.out.mono ?_
    rintro q w1 ⟨A', c', rfl, sl, r1, g1⟩
    have hsz : B ≤ w1.heap.size := by have := g1.size; omega
    obtain ⟨b, off, rfl, hbw⟩ := (sl.rd_ hsz).some_ (by simp)
    have hc := (sl.rd_ hsz).cell (j := 0) (x := x) rfl
    rw [Nat.add_zero] at hc
    have hl1 : ([x] : List Int).length = 1 := rfl
    have R1 := Lib.hid r1
    have G1 := Lib.hid g1
    clear r1 g1 sl CT
    go_wp2
    go_ret
    exact ⟨rfl, R1.out, G1.out⟩
  · have e2 : tkO p e 1 = [] := by rw [tkO, if_neg hok]
    have e3 : byteV p e = 0 := by
      unfold byteV
      split
      · rename_i h0
        cases p with
        | nil => rfl
        | cons x r => exact absurd ⟨h0, by simp⟩ hok
      · rfl
    rw [e2] at CT
    rw [e3]
    obtain ⟨L, hL⟩ : ∃ L, L = tkL p e 1 := ⟨_, rfl⟩
    obtain ⟨E, hE⟩ : ∃ E, E = needE e p.length 1 := ⟨_, rfl⟩
    rw [← hL, ← hE] at CT ⊢
    clear hL hE h e2 e3 hok
    have hl1 : ([] : List Int).length = 0 := rfl
    rw [hl1] at CT
    go_enter Tryd.func50, Tryd.ntmps50
    go_wp2_with fail
    refine CT.out.mono ?_
    rintro q w1 ⟨A', c', rfl, sl, r1, g1⟩
    have R1 := Lib.hid r1
    have G1 := Lib.hid g1
    clear r1 g1 sl CT
    go_wp2
    go_ret
    exact ⟨rfl, R1.out, G1.out⟩

theorem RBytes_any (g B : Nat) (p : List Int) (e : Int) (n : Nat) (w : World) (h : Rdr w g B p e) (hn : n < 18446744073709551616) :
    Calls Tryd.prog 70 #[.pointer (some ⟨g, 0, none⟩), .int .u64 n] w fun r w' =>
      ∃ A' c', r = .returned (.slice A' (tkO p e n).length c') ∧ Own w' w.heap.size A' c' (tkO p e n) ∧ Rdr w' g B (tkL p e n) (needE e p.length n) ∧ w.grownBy w' (some g) := by
  have CT := Lib.hid (take_any g B p e n w h hn)
  have hB := h.le
  have hlt := h.lt
  have hsm := h.small
  obtain ⟨O, hO⟩ : ∃ O, O = tkO p e n := ⟨_, rfl⟩
  obtain ⟨L, hL⟩ : ∃ L, L = tkL p e n := ⟨_, rfl⟩
  obtain ⟨E, hE⟩ : ∃ E, E = needE e p.length n := ⟨_, rfl⟩
  have hOl : O.length ≤ 70368744177664 := by rw [hO, tkO]; split; simp; omega; simp
  rw [← hO, ← hL, ← hE] at CT ⊢
  clear hO hL hE h
  go_enter Tryd.func70, Tryd.ntmps70
  go_wp2_with fail
  refine CT.out.mono ?_
  rintro q w1 ⟨A', c', rfl, sl, r1, g1⟩
  have hsz : B ≤ w1.heap.size := by have := g1.size; omega
  have CC := Lib.hid (clone_any A' c' O w1 (sl.rd_ hsz) hOl (fun hA => by
    have h0 := sl.nil hA
    have h1 := sl.le
    exact ⟨List.eq_nil_of_length_eq_zero (by omega), h0⟩))
  have R1 := Lib.hid r1
  have G1 := Lib.hid g1
  clear r1 g1 sl CT
  go_wp2_with fail
  refine CC.out.mono ?_
  rintro q w2 ⟨A2, c2, rfl, o2, b2⟩
  have O2 := Lib.hid (o2.base_le G1.out.size)
  have R2 := Lib.hid (R1.out.below b2)
  have G2 := Lib.hid (only_then G1.out (only_below b2 (some g)))
  clear o2 b2
  go_wp2
  go_ret
  exact ⟨_, _, rfl, O2.out, R2.out, G2.out⟩

theorem rd_take8 (p : List Int) : rdS (p.take 8) = rdS p ∧ rdN (p.take 8) = rdN p := by
  match p with
  | [] => exact ⟨rfl, rfl⟩
  | x :: r =>
    have hv := vlen_bd x
    have e : (x :: r).take 8 = x :: r.take 7 := rfl
    rw [e]
    simp only [rdS, rdN, List.length_cons, List.length_take]
    by_cases h : r.length + 1 < vlen x
    · rw [if_pos h, if_pos h, if_pos (by omega), if_pos (by omega)]; exact ⟨rfl, rfl⟩
    · rw [if_neg h, if_neg h, if_neg (by omega), if_neg (by omega), List.take_take, Nat.min_eq_left (by omega)]; exact ⟨rfl, rfl⟩
theorem rdS_le8 (p : List Int) : rdS p ≤ 8 := by
  match p with
  | [] => simp [rdS]
  | x :: r => have := vlen_bd x; simp only [rdS]; split <;> omega
def numN (p : List Int) (e : Int) : Int := if e = 0 ∧ rdS p ≠ 0 then rdN p else 0
def numL (p : List Int) (e : Int) : List Int := if e = 0 then p.drop (rdS p) else p
def numE (p : List Int) (e : Int) : Int := if e = 0 ∧ rdS p = 0 then 2 else e
set_option maxHeartbeats 800000 in
theorem Number_any (g B : Nat) (p : List Int) (e : Int) (w : World) (h : Rdr w g B p e) :
    Calls Tryd.prog 49 #[.pointer (some ⟨g, 0, none⟩)] w fun r w' => r = .returned (.int .u64 (numN p e)) ∧ Rdr w' g B (numL p e) (numE p e) ∧ w.grownBy w' (some g) := by
  have hB := h.le
  have hlt := h.lt
  have hsm := h.small
  have H := Lib.hid h
  obtain ⟨A, c, k, sl⟩ := h.sl
  have c1 : w.cell? ⟨g, 1, none⟩ = some (.int .i64 e) := k.cell 1
  have c0 : w.cell? ⟨g, 0, none⟩ = some (.slice A p.length c) := k.cell 0
  have d0 : w.drew.cell? ⟨g, 0, none⟩ = some (.slice A p.length c) := k.cell 0
  have f0 := k.frozen 0
  have f1 := k.frozen 1
  have S := Lib.hid sl
  have K := Lib.hid k
  clear h k
  by_cases h0 : e = 0
  · subst h0
    obtain ⟨m, hm⟩ : ∃ m, m = min p.length 8 := ⟨_, rfl⟩
    have hml : m ≤ p.length := by omega
    have hlc := sl.le
    have s1 := slice_upto_is A c p.length m .i64 m rfl hml hlc
    have htl : (p.take m).length = m := by simp [hml]
    have ht8 : p.take m = p.take 8 := by
      rcases Nat.le_total p.length 8 with h | h
      · rw [List.take_of_length_le h, List.take_of_length_le (by omega)]
      · rw [show m = 8 by omega]
    have rs := (rd_take8 p)
    rw [← ht8] at rs
    have hmin : (if (p.length : Int) ≤ 8 then (p.length : Int) else 8) = (m : Int) := by split <;> omega
    have RM := (sl.upto hml).rd_ (by omega)
    have hw : (p.length : Int) ≤ 8 ∧ m = p.length ∨ ¬ (p.length : Int) ≤ 8 ∧ m = 8 := by omega
    by_cases hr : rdS p = 0
    · have e1 : numN p 0 = 0 := by rw [numN, if_neg (by simp [hr])]
      have e2 : numL p 0 = p := by rw [numL, if_pos rfl, hr]; rfl
      have e3 : numE p 0 = 2 := by rw [numE, if_pos ⟨rfl, hr⟩]
      rw [e1, e2, e3]
      have CT := take_no A c (p.take m) w.drew RM.drew (H.out.bytes.take m) (by omega) (by omega) (by rw [rs.1]; exact hr)
      rw [htl] at CT
      have CT' := Lib.hid CT
      clear CT e1 e2 e3 rs ht8 htl hr hmin RM sl hm
      rcases hw with ⟨hw1, hw2⟩ | ⟨hw1, hw2⟩
      all_goals
        subst hw2
        go_enter Tryd.func49, Tryd.ntmps49
        go_wp2_with fail
        go_region
        have d1 : w.drew.cell? ⟨g, 1, none⟩ = some (.int .i64 0) := c1
        have df1 : w.drew.frozen? ⟨g, 1, none⟩ = false := f1
        clear c0 d0 c1 f0 f1
        go_wp2_with fail
        refine CT'.out.mono ?_
        rintro q w1 ⟨rfl, rfl⟩
        go_wp2
        go_ret
        exact ⟨rfl, H.out.drew.setE 2, only_set (g := g) (p := ⟨g, 1, none⟩) (only_drew1 (only_refl w (some g))) rfl _⟩
    · have e1 : numN p 0 = rdN p := by rw [numN, if_pos ⟨rfl, hr⟩]
      have e2 : numL p 0 = p.drop (rdS p) := by rw [numL, if_pos rfl]
      have e3 : numE p 0 = 0 := by rw [numE, if_neg (by simp [hr])]
      rw [e1, e2, e3]
      have h8 := rdS_le8 p
      have hsl := rdS_le p
      have hsm2 : rdS p ≤ m := by rw [← rs.1]; have := rdS_le (p.take m); omega
      have CT := take_yes A c (p.take m) w.drew RM.drew (H.out.bytes.take m) (by omega) (by omega) (by rw [rs.1]; exact hr)
      rw [htl, rs.1, rs.2] at CT
      obtain ⟨s, hs⟩ : ∃ s, s = rdS p := ⟨_, rfl⟩
      obtain ⟨N, hN⟩ : ∃ N, N = rdN p := ⟨_, rfl⟩
      rw [← hs] at CT h8 hsl hsm2 ⊢
      rw [← hN] at CT ⊢
      obtain ⟨q, hq⟩ : ∃ q, q = (p.take m).drop s := ⟨_, rfl⟩
      have hql : q.length = m - s := by rw [hq, List.length_drop, htl]
      rw [← hq] at CT
      have hqB : (q.length : Int) ≤ 8 := by omega
      have CT' := Lib.hid CT
      have SLF := Lib.hid (sl.from_ hsl)
      obtain ⟨A2, hA2⟩ : ∃ A2, A2 = (if c = s then A else A.map (·.add (s * 1))) := ⟨_, rfl⟩
      rw [← hA2] at SLF
      have SF := Lib.hid (fun (z : Int) (hz : z = s) W => hA2 ▸ slice_from_is A c p.length s .i64 z hz hsl hlc W)
      have HQL := Lib.hid hql
      clear CT e1 e2 e3 rs ht8 htl hr hmin RM sl hm hs hN hq hql hA2
      rcases hw with ⟨hw1, hw2⟩ | ⟨hw1, hw2⟩
      · subst hw2
        have s2 := SF.out ((p.length : Int) - (q.length : Int)) (by have := HQL.out; omega)
        clear SF
        go_enter Tryd.func49, Tryd.ntmps49
        go_wp2_with fail
        go_region
        have HD0 := Lib.hid d0
        have HF0 := Lib.hid (show w.drew.frozen? ⟨g, 0, none⟩ = false from f0)
        clear c0 d0 c1 f0 f1
        go_wp2_with fail
        refine CT'.out.mono ?_
        rintro z w1 ⟨A', c', rfl, o1, b1⟩
        have k0 : w1.cell? ⟨g, 0, none⟩ = some (.slice A p.length c) := by rw [b1.cell (p := ⟨g, 0, none⟩) hlt]; exact HD0.out
        have kf0 : w1.frozen? ⟨g, 0, none⟩ = false := by rw [b1.frozen (p := ⟨g, 0, none⟩) hlt]; exact HF0.out
        have kd0 : w1.drew.cell? ⟨g, 0, none⟩ = some (.slice A p.length c) := k0
        have kdf0 : w1.drew.frozen? ⟨g, 0, none⟩ = false := kf0
        have B1 := Lib.hid b1
        clear b1 o1
        go_wp2_with fail
        go_ret
        refine ⟨rfl, ?_, only_set (g := g) (p := ⟨g, 0, none⟩) (only_then (only_drew1 (only_refl w (some g))) (only_below B1.out (some g))) rfl _⟩
        have k2 := ((show Blk w.drew g _ _ from K.out).below B1.out hlt).set_ 0 (.slice A2 (p.length - s) (c - s))
        exact Rdr.mk_ (n := p.length - s) (A := A2) (c := c - s) (by simpa using k2) (by simp) ((SLF.out.keep (w' := w1) (fun q hq => B1.out.cell (p := q) (show q.block < w.heap.size by omega))).setCell (p := ⟨g, 0, none⟩) hB _) (H.out.bytes.drop s) hB (by simp; omega)
      · subst hw2
        have s2 := SF.out ((8 : Int) - (q.length : Int)) (by have := HQL.out; omega)
        clear SF
        go_enter Tryd.func49, Tryd.ntmps49
        go_wp2_with fail
        go_region
        have HD0 := Lib.hid d0
        have HF0 := Lib.hid (show w.drew.frozen? ⟨g, 0, none⟩ = false from f0)
        clear c0 d0 c1 f0 f1
        go_wp2_with fail
        refine CT'.out.mono ?_
        rintro z w1 ⟨A', c', rfl, o1, b1⟩
        have k0 : w1.cell? ⟨g, 0, none⟩ = some (.slice A p.length c) := by rw [b1.cell (p := ⟨g, 0, none⟩) hlt]; exact HD0.out
        have kf0 : w1.frozen? ⟨g, 0, none⟩ = false := by rw [b1.frozen (p := ⟨g, 0, none⟩) hlt]; exact HF0.out
        have kd0 : w1.drew.cell? ⟨g, 0, none⟩ = some (.slice A p.length c) := k0
        have kdf0 : w1.drew.frozen? ⟨g, 0, none⟩ = false := kf0
        have B1 := Lib.hid b1
        clear b1 o1
        go_wp2_with fail
        go_ret
        refine ⟨rfl, ?_, only_set (g := g) (p := ⟨g, 0, none⟩) (only_then (only_drew1 (only_refl w (some g))) (only_below B1.out (some g))) rfl _⟩
        have k2 := ((show Blk w.drew g _ _ from K.out).below B1.out hlt).set_ 0 (.slice A2 (p.length - s) (c - s))
        exact Rdr.mk_ (n := p.length - s) (A := A2) (c := c - s) (by simpa using k2) (by simp) ((SLF.out.keep (w' := w1) (fun q hq => B1.out.cell (p := q) (show q.block < w.heap.size by omega))).setCell (p := ⟨g, 0, none⟩) hB _) (H.out.bytes.drop s) hB (by simp; omega)
  · have hz : (e == 0) = false := by simpa using h0
    rw [show numN p e = 0 from if_neg (by simp [h0]), show numL p e = p from if_neg h0, show numE p e = e from if_neg (by simp [h0])]
    clear sl
    go_enter Tryd.func49, Tryd.ntmps49
    go_wp2
    go_ret
    exact ⟨rfl, H.out, only_refl _ _⟩
end Go.Proofs.YtpaglcojbcndoaaDoor
