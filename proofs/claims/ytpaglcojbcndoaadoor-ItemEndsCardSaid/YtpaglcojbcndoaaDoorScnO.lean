/-
  The reader of package scan, over bytes that lie outside the block G (made by mkScnO.py).
-/
import Derived.Test.YtpaglcojbcndoaaDoorScanC
namespace Go.Proofs.YtpaglcojbcndoaaDoor
open Go.RowKit
set_option linter.unusedVariables false
set_option linter.unusedSimpArgs false
/-- The reader's block stands at g: the bytes p are left, in blocks below B; its error is e. -/
structure RdrO (G : Nat) (w : World) (g B : Nat) (p : List Int) (e : Int) : Prop where
  blk : ∃ (A : Option Addr) (c : Nat), Blk w g 101 #[.slice A p.length c, .int .i64 e] ∧ p.length ≤ c ∧ c ≤ 9223372036854775807 ∧ Reads w B 1 A p.length (U8 p) ∧ (A = none → c = 0) ∧ ∀ ad, A = some ad → ad.block = G
  bytes : Bytes p
  le : B ≤ g
  small : p.length ≤ 70368744177664
theorem RdrO.lt {w : World} {G g B : Nat} {p : List Int} {e : Int} (h : RdrO G w g B p e) : g < w.heap.size := by
  obtain ⟨A, c, k, _⟩ := h.blk
  exact k.lt
theorem RdrO.below {w w' : World} {G g B : Nat} {p : List Int} {e : Int} (h : RdrO G w g B p e) (hb : Below w.heap.size w w') : RdrO G w' g B p e := by
  have hl := h.lt
  obtain ⟨A, c, k, h1, h2, h3, h4⟩ := h.blk
  exact ⟨⟨A, c, k.below hb hl, h1, h2, h3.keep (fun q hq => hb.cell (p := q) (by have := h.le; omega)), h4⟩, h.bytes, h.le, h.small⟩
theorem RdrO.drew {w : World} {G g B : Nat} {p : List Int} {e : Int} (h : RdrO G w g B p e) : RdrO G w.drew g B p e := ⟨h.blk, h.bytes, h.le, h.small⟩
/-- The error is set. -/
theorem RdrO.setE {w : World} {G g B : Nat} {p : List Int} {e : Int} (h : RdrO G w g B p e) (x : Int) : RdrO G (w.setCell ⟨g, 1, none⟩ (.int .i64 x)) g B p x := by
  obtain ⟨A, c, k, h1, h2, h3, h4⟩ := h.blk
  exact ⟨⟨A, c, by simpa using k.set_ 1 (.int .i64 x), h1, h2, h3.setCell (p := ⟨g, 1, none⟩) h.le _, h4⟩, h.bytes, h.le, h.small⟩
theorem Errno_anyO {G : Nat} (g B : Nat) (p : List Int) (e : Int) (w : World) (h : RdrO G w g B p e) :
    Calls Tryd.prog 58 #[.pointer (some ⟨g, 0, none⟩)] w fun r w' => r = .returned (.int .i64 e) ∧ w = w' := by
  obtain ⟨A, c, k, h1, h2, h3, h4⟩ := h.blk
  have c1 := k.cell 1
  go_enter Tryd.func58, Tryd.ntmps58
  go_wp2
  go_ret
  exact ⟨rfl, rfl⟩
theorem Must_anyO {G : Nat} (g B : Nat) (p : List Int) (e : Int) (ok : Bool) (w : World) (h : RdrO G w g B p e) :
    Calls Tryd.prog 47 #[.pointer (some ⟨g, 0, none⟩), .bool ok] w fun r w' => r = .returned (.tuple #[]) ∧ RdrO G w' g B p (mustE e ok) ∧ w.grownBy w' (some g) := by
  have H := Lib.hid h
  obtain ⟨A, c, k, h1, h2, h3, h4⟩ := h.blk
  have c1 := k.cell 1
  have f1 := k.frozen 1
  obtain ⟨R, hR⟩ : ∃ R, R = mustE e ok := ⟨_, rfl⟩
  have HR := Lib.hid hR
  rw [← hR]
  clear hR h k h3
  by_cases h0 : e = 0
  · subst h0
    cases ok
    · go_enter Tryd.func47, Tryd.ntmps47
      go_wp2
      exact bodyPost_end (v := .tuple #[]) (results_none (by rfl) _ _ _) (by rfl) ⟨rfl, by rw [HR.out]; exact H.out.setE 4, only_set (only_refl _ _) rfl _⟩
    · go_enter Tryd.func47, Tryd.ntmps47
      go_wp2
      exact bodyPost_end (v := .tuple #[]) (results_none (by rfl) _ _ _) (by rfl) ⟨rfl, by rw [HR.out]; exact H.out, only_refl _ _⟩
  · have hz : (e == 0) = false := by simpa using h0
    have hR2 : R = e := by rw [HR.out, mustE, if_neg (by simp [h0])]
    subst hR2
    go_enter Tryd.func47, Tryd.ntmps47
    go_wp2
    exact bodyPost_end (v := .tuple #[]) (results_none (by rfl) _ _ _) (by rfl) ⟨rfl, H.out, only_refl _ _⟩
/-- A slice of bytes that lie in blocks below B. -/
structure SlBO (G : Nat) (w : World) (B : Nat) (A : Option Addr) (c : Nat) (l : List Int) : Prop where
  rd : Reads w B 1 A l.length (U8 l)
  le : l.length ≤ c
  max : c ≤ 9223372036854775807
  nil : (A = none → c = 0) ∧ ∀ ad, A = some ad → ad.block = G
theorem SlBO.none_ (w : World) {G : Nat} (B : Nat) : SlBO G w B none 0 [] := ⟨⟨by simp [U8], fun h => absurd h (by simp)⟩, by simp, by omega, fun _ => rfl, fun _ h => by cases h⟩
theorem SlBO.keep {w w' : World} {G B : Nat} {A : Option Addr} {c : Nat} {l : List Int} (h : SlBO G w B A c l) (hk : ∀ p : Addr, p.block < B → w'.cell? p = w.cell? p) : SlBO G w' B A c l := ⟨h.rd.keep hk, h.le, h.max, h.nil⟩
theorem SlBO.grown {w w' : World} {G B g : Nat} {A : Option Addr} {c : Nat} {l : List Int} (h : SlBO G w B A c l) (hg : w.grownBy w' (some g)) (hB : B ≤ w.heap.size) (hr : B ≤ g) : SlBO G w' B A c l :=
  ⟨h.rd.grown hg hB (by rintro _ ⟨⟩; exact hr), h.le, h.max, h.nil⟩
theorem SlBO.setCell {w : World} {G B : Nat} {A : Option Addr} {c : Nat} {l : List Int} (h : SlBO G w B A c l) {p : Addr} (hB : B ≤ p.block) (u : Value) : SlBO G (w.setCell p u) B A c l := ⟨h.rd.setCell hB u, h.le, h.max, h.nil⟩
theorem SlBO.upto {w : World} {G B : Nat} {A : Option Addr} {c : Nat} {l : List Int} (h : SlBO G w B A c l) {k : Nat} (hk : k ≤ l.length) : SlBO G w B A c (l.take k) := by
  have e : (l.take k).length = k := by simp [hk]
  have hl := h.le
  refine ⟨?_, by omega, h.max, h.nil⟩
  have := h.rd.upto hk
  rw [Nat.mul_one] at this
  rw [e, U8_take]
  exact this
theorem SlBO.from_ {w : World} {G B : Nat} {A : Option Addr} {c : Nat} {l : List Int} (h : SlBO G w B A c l) {k : Nat} (hk : k ≤ l.length) : SlBO G w B (if c = k then A else A.map (·.add (k * 1))) (c - k) (l.drop k) := by
  have e : (l.drop k).length = l.length - k := by simp
  have hl := h.le
  refine ⟨?_, by omega, by have := h.max; omega, fun hn => ?_, fun ad hd => ?_⟩
  · have := h.rd.cut hk hl
    simp only [Nat.mul_one] at this ⊢
    rw [e, U8_drop]
    exact this
  · split at hn
    · have := h.nil.1 hn; omega
    · cases A with
      | none => have := h.nil.1 rfl; omega
      | some a => cases hn
  · split at hd
    · exact h.nil.2 ad hd
    · cases A with
      | none => cases hd
      | some a =>
        injection hd with hd
        subst hd
        show (a.add (k * 1)).block = G
        rw [block_of_add]
        exact h.nil.2 a rfl
theorem RdrO.sl {w : World} {G g B : Nat} {p : List Int} {e : Int} (h : RdrO G w g B p e) : ∃ (A : Option Addr) (c : Nat), Blk w g 101 #[.slice A p.length c, .int .i64 e] ∧ SlBO G w B A c p := by
  obtain ⟨A, c, k, h1, h2, h3, h4⟩ := h.blk
  exact ⟨A, c, k, h3, h1, h2, h4⟩
theorem RdrO.mk_ {w : World} {G g B : Nat} {p : List Int} {e : Int} {A : Option Addr} {c n : Nat} (k : Blk w g 101 #[.slice A n c, .int .i64 e]) (hn : n = p.length) (h : SlBO G w B A c p) (hb : Bytes p) (hB : B ≤ g) (hs : p.length ≤ 70368744177664) : RdrO G w g B p e :=
  ⟨⟨A, c, hn ▸ k, h.le, h.max, h.rd, h.nil⟩, hb, hB, hs⟩
theorem Need_anyO {G : Nat} (g B : Nat) (p : List Int) (e : Int) (n : Nat) (w : World) (h : RdrO G w g B p e) (hn : n < 18446744073709551616) :
    Calls Tryd.prog 67 #[.pointer (some ⟨g, 0, none⟩), .int .u64 n] w fun r w' => r = .returned (.tuple #[]) ∧ RdrO G w' g B p (needE e p.length n) ∧ w.grownBy w' (some g) := by
  have H := Lib.hid h
  have hs := h.small
  obtain ⟨A, c, k, h1, h2, h3, h4⟩ := h.blk
  have c1 := k.cell 1
  have c0 := k.cell 0
  have f1 := k.frozen 1
  obtain ⟨R, hR⟩ : ∃ R, R = needE e p.length n := ⟨_, rfl⟩
  have HR := Lib.hid hR
  rw [← hR]
  clear hR h k h3
  by_cases h0 : e = 0
  · subst h0
    by_cases hlt : p.length < n
    · have hz : (p.length : Int) < n := by omega
      go_enter Tryd.func67, Tryd.ntmps67
      go_wp2
      exact bodyPost_end (v := .tuple #[]) (results_none (by rfl) _ _ _) (by rfl) ⟨rfl, by rw [HR.out, needE, if_pos ⟨rfl, hlt⟩]; exact H.out.setE 2, only_set (only_refl _ _) rfl _⟩
    · have hz : ¬ (p.length : Int) < n := by omega
      go_enter Tryd.func67, Tryd.ntmps67
      go_wp2
      exact bodyPost_end (v := .tuple #[]) (results_none (by rfl) _ _ _) (by rfl) ⟨rfl, by rw [HR.out, needE, if_neg (by simp [hlt])]; exact H.out, only_refl _ _⟩
  · have hz : (e == 0) = false := by simpa using h0
    have hR2 : R = e := by rw [HR.out, needE, if_neg (by simp [h0])]
    subst hR2
    go_enter Tryd.func67, Tryd.ntmps67
    go_wp2
    exact bodyPost_end (v := .tuple #[]) (results_none (by rfl) _ _ _) (by rfl) ⟨rfl, H.out, only_refl _ _⟩
set_option maxHeartbeats 800000 in
theorem take_anyO {G : Nat} (g B : Nat) (p : List Int) (e : Int) (n : Nat) (w : World) (h : RdrO G w g B p e) (hn : n < 18446744073709551616) :
    Calls Tryd.prog 60 #[.pointer (some ⟨g, 0, none⟩), .int .u64 n] w fun r w' =>
      ∃ A' c', r = .returned (.slice A' (tkO p e n).length c') ∧ SlBO G w' B A' c' (tkO p e n) ∧ RdrO G w' g B (tkL p e n) (needE e p.length n) ∧ w.grownBy w' (some g) := by
  have hgl := h.lt
  have hgB := h.le
  have HS := h.small
  have HB := Lib.hid h.bytes
  have CN := Lib.hid (Need_anyO g B p e n w h hn)
  by_cases hok : e = 0 ∧ n ≤ p.length
  · obtain ⟨rfl, hle⟩ := hok
    have e1 : needE 0 p.length n = 0 := by rw [needE, if_neg (by omega)]
    have e2 : tkO p 0 n = p.take n := by rw [tkO, if_pos ⟨rfl, hle⟩]
    have e3 : tkL p 0 n = p.drop n := by rw [tkL, if_pos ⟨rfl, hle⟩]
    rw [e1] at CN
    rw [e1, e2, e3]
    have ht : (p.take n).length = n := by simp [hle]
    obtain ⟨O, hO⟩ : ∃ O, O = p.take n := ⟨_, rfl⟩
    obtain ⟨L, hL⟩ : ∃ L, L = p.drop n := ⟨_, rfl⟩
    rw [← hO, ← hL]
    rw [← hO] at ht
    rw [ht]
    have HO := Lib.hid hO
    have HL := Lib.hid hL
    have HT := Lib.hid ht
    clear e1 e2 e3 hO hL h ht
    go_enter Tryd.func60, Tryd.ntmps60
    go_wp2_with fail
    refine CN.out.mono ?_
    rintro r w1 ⟨rfl, r1, g1⟩
    obtain ⟨A, c, k, sl⟩ := r1.sl
    have c0 := k.cell 0
    have c1 := k.cell 1
    have f0 := k.frozen 0
    have hlc := sl.le
    have s1 := slice_upto_is A c p.length n .u64 n rfl hle hlc
    have s2 := slice_from_is A c p.length n .u64 n rfl hle hlc
    have SLU := Lib.hid (sl.upto hle)
    have SLF := Lib.hid (sl.from_ hle)
    obtain ⟨A2, hA2⟩ : ∃ A2, A2 = (if c = n then A else A.map (·.add (n * 1))) := ⟨_, rfl⟩
    rw [← hA2] at s2 SLF
    have K := Lib.hid k
    have G1 := Lib.hid g1
    clear hA2 r1 k sl g1 CN
    go_wp2
    go_ret
    refine ⟨_, _, rfl, ?_, ?_, ?_⟩
    · rw [HO.out]
      exact SLU.out.setCell (p := ⟨g, 0, none⟩) hgB _
    · have k2 := K.out.set_ 0 (.slice A2 (p.length - n) (c - n))
      refine RdrO.mk_ (n := p.length - n) (A := A2) (c := c - n) (by simpa using k2) (by rw [HL.out]; simp) ?_ (by rw [HL.out]; exact HB.out.drop n) hgB (by rw [HL.out]; simp; omega)
      rw [HL.out]
      exact SLF.out.setCell (p := ⟨g, 0, none⟩) hgB _
    · exact only_set G1.out rfl _
  · have e2 : tkO p e n = [] := by rw [tkO, if_neg hok]
    have e3 : tkL p e n = p := by rw [tkL, if_neg hok]
    have hE : needE e p.length n ≠ 0 := by
      unfold needE
      split
      · omega
      · rename_i h1; intro h0; exact hok ⟨h0, by omega⟩
    rw [e2, e3]
    obtain ⟨E, hEE⟩ : ∃ E, E = needE e p.length n := ⟨_, rfl⟩
    rw [← hEE] at hE CN ⊢
    have hz : (E == 0) = false := by simpa using hE
    clear hEE e2 e3 h
    go_enter Tryd.func60, Tryd.ntmps60
    go_wp2_with fail
    refine CN.out.mono ?_
    rintro r w1 ⟨rfl, r1, g1⟩
    have R1 := Lib.hid r1
    obtain ⟨A, c, k, sl⟩ := r1.sl
    have c1 := k.cell 1
    clear r1 k sl CN
    go_wp2
    go_ret
    exact ⟨none, 0, rfl, SlBO.none_ _ _, R1.out, g1⟩
theorem SlBO.rd_ {w : World} {G B : Nat} {A : Option Addr} {c : Nat} {l : List Int} (h : SlBO G w B A c l) (hB : B ≤ w.heap.size) : Rd w A l := Reads.more h.rd hB
theorem Left_anyO {G : Nat} (g B : Nat) (p : List Int) (e : Int) (w : World) (h : RdrO G w g B p e) :
    Calls Tryd.prog 51 #[.pointer (some ⟨g, 0, none⟩)] w fun r w' => ∃ A' c', r = .returned (.slice A' (leftV p e).length c') ∧ SlBO G w B A' c' (leftV p e) ∧ w = w' := by
  obtain ⟨A, c, k, sl⟩ := h.sl
  have c1 := k.cell 1
  have c0 := k.cell 0
  have S := Lib.hid sl
  clear sl k h
  by_cases h0 : e = 0
  · subst h0
    rw [show leftV p 0 = p from if_pos rfl]
    go_enter Tryd.func51, Tryd.ntmps51
    go_wp2
    go_ret
    exact ⟨A, c, rfl, S.out, rfl⟩
  · have hz : (e == 0) = false := by simpa using h0
    rw [show leftV p e = [] from if_neg h0]
    go_enter Tryd.func51, Tryd.ntmps51
    go_wp2
    go_ret
    exact ⟨none, 0, rfl, SlBO.none_ _ _, rfl⟩
theorem Byte_anyO {G : Nat} (g B : Nat) (p : List Int) (e : Int) (w : World) (h : RdrO G w g B p e) :
    Calls Tryd.prog 50 #[.pointer (some ⟨g, 0, none⟩)] w fun r w' => r = .returned (.int .u8 (byteV p e)) ∧ RdrO G w' g B (tkL p e 1) (needE e p.length 1) ∧ w.grownBy w' (some g) := by
  have CT := Lib.hid (take_anyO g B p e 1 w h (by omega))
  have hB := h.le
  have hlt := h.lt
  by_cases hok : e = 0 ∧ 1 ≤ p.length
  · obtain ⟨rfl, hle⟩ := hok
    obtain ⟨x, r, rfl⟩ : ∃ x r, p = x :: r := by cases p with | nil => simp at hle | cons x r => exact ⟨x, r, rfl⟩
    have e1 : tkO (x :: r) 0 1 = [x] := by rw [tkO, if_pos ⟨rfl, hle⟩]; rfl
    rw [show byteV (x :: r) 0 = x from rfl]
    rw [e1] at CT
    obtain ⟨L, hL⟩ : ∃ L, L = tkL (x :: r) 0 1 := ⟨_, rfl⟩
    obtain ⟨E, hE⟩ : ∃ E, E = needE 0 (x :: r).length 1 := ⟨_, rfl⟩
    rw [← hL, ← hE] at CT ⊢
    clear hL hE h e1 hle
    go_enter Tryd.func50, Tryd.ntmps50
    go_wp2_with fail
    refine CT.out.mono ?_
    rintro q w1 ⟨A', c', rfl, sl, r1, g1⟩
    have hsz : B ≤ w1.heap.size := by have := g1.size; omega
    obtain ⟨b, off, rfl, hbw⟩ := (sl.rd_ hsz).some_ (by simp)
    have hc := (sl.rd_ hsz).cell (j := 0) (x := x) rfl
    rw [Nat.add_zero] at hc
    have hl1 : ([x] : List Int).length = 1 := rfl
    have R1 := Lib.hid r1
    have G1 := Lib.hid g1
    clear r1 g1 sl CT
    go_wp2
    go_ret
    exact ⟨rfl, R1.out, G1.out⟩
  · have e2 : tkO p e 1 = [] := by rw [tkO, if_neg hok]
    have e3 : byteV p e = 0 := by
      unfold byteV
      split
      · rename_i h0
        cases p with
        | nil => rfl
        | cons x r => exact absurd ⟨h0, by simp⟩ hok
      · rfl
    rw [e2] at CT
    rw [e3]
    obtain ⟨L, hL⟩ : ∃ L, L = tkL p e 1 := ⟨_, rfl⟩
    obtain ⟨E, hE⟩ : ∃ E, E = needE e p.length 1 := ⟨_, rfl⟩
    rw [← hL, ← hE] at CT ⊢
    clear hL hE h e2 e3 hok
    have hl1 : ([] : List Int).length = 0 := rfl
    rw [hl1] at CT
    go_enter Tryd.func50, Tryd.ntmps50
    go_wp2_with fail
    refine CT.out.mono ?_
    rintro q w1 ⟨A', c', rfl, sl, r1, g1⟩
    have R1 := Lib.hid r1
    have G1 := Lib.hid g1
    clear r1 g1 sl CT
    go_wp2
    go_ret
    exact ⟨rfl, R1.out, G1.out⟩
theorem RBytes_anyO {G : Nat} (g B : Nat) (p : List Int) (e : Int) (n : Nat) (w : World) (h : RdrO G w g B p e) (hn : n < 18446744073709551616) :
    Calls Tryd.prog 70 #[.pointer (some ⟨g, 0, none⟩), .int .u64 n] w fun r w' =>
      ∃ A' c', r = .returned (.slice A' (tkO p e n).length c') ∧ Own w' w.heap.size A' c' (tkO p e n) ∧ RdrO G w' g B (tkL p e n) (needE e p.length n) ∧ w.grownBy w' (some g) := by
  have CT := Lib.hid (take_anyO g B p e n w h hn)
  have hB := h.le
  have hlt := h.lt
  have hsm := h.small
  obtain ⟨O, hO⟩ : ∃ O, O = tkO p e n := ⟨_, rfl⟩
  obtain ⟨L, hL⟩ : ∃ L, L = tkL p e n := ⟨_, rfl⟩
  obtain ⟨E, hE⟩ : ∃ E, E = needE e p.length n := ⟨_, rfl⟩
  have hOl : O.length ≤ 70368744177664 := by rw [hO, tkO]; split; simp; omega; simp
  rw [← hO, ← hL, ← hE] at CT ⊢
  clear hO hL hE h
  go_enter Tryd.func70, Tryd.ntmps70
  go_wp2_with fail
  refine CT.out.mono ?_
  rintro q w1 ⟨A', c', rfl, sl, r1, g1⟩
  have hsz : B ≤ w1.heap.size := by have := g1.size; omega
  have CC := Lib.hid (clone_any A' c' O w1 (sl.rd_ hsz) hOl (fun hA => by
    have h0 := sl.nil.1 hA
    have h1 := sl.le
    exact ⟨List.eq_nil_of_length_eq_zero (by omega), h0⟩))
  have R1 := Lib.hid r1
  have G1 := Lib.hid g1
  clear r1 g1 sl CT
  go_wp2_with fail
  refine CC.out.mono ?_
  rintro q w2 ⟨A2, c2, rfl, o2, b2⟩
  have O2 := Lib.hid (o2.base_le G1.out.size)
  have R2 := Lib.hid (R1.out.below b2)
  have G2 := Lib.hid (only_then G1.out (only_below b2 (some g)))
  clear o2 b2
  go_wp2
  go_ret
  exact ⟨_, _, rfl, O2.out, R2.out, G2.out⟩
set_option maxHeartbeats 800000 in
theorem Number_anyO {G : Nat} (g B : Nat) (p : List Int) (e : Int) (w : World) (h : RdrO G w g B p e) :
    Calls Tryd.prog 49 #[.pointer (some ⟨g, 0, none⟩)] w fun r w' => r = .returned (.int .u64 (numN p e)) ∧ RdrO G w' g B (numL p e) (numE p e) ∧ w.grownBy w' (some g) := by
  have hB := h.le
  have hlt := h.lt
  have hsm := h.small
  have H := Lib.hid h
  obtain ⟨A, c, k, sl⟩ := h.sl
  have c1 : w.cell? ⟨g, 1, none⟩ = some (.int .i64 e) := k.cell 1
  have c0 : w.cell? ⟨g, 0, none⟩ = some (.slice A p.length c) := k.cell 0
  have d0 : w.drew.cell? ⟨g, 0, none⟩ = some (.slice A p.length c) := k.cell 0
  have f0 := k.frozen 0
  have f1 := k.frozen 1
  have S := Lib.hid sl
  have K := Lib.hid k
  clear h k
  by_cases h0 : e = 0
  · subst h0
    obtain ⟨m, hm⟩ : ∃ m, m = min p.length 8 := ⟨_, rfl⟩
    have hml : m ≤ p.length := by omega
    have hlc := sl.le
    have s1 := slice_upto_is A c p.length m .i64 m rfl hml hlc
    have htl : (p.take m).length = m := by simp [hml]
    have ht8 : p.take m = p.take 8 := by
      rcases Nat.le_total p.length 8 with h | h
      · rw [List.take_of_length_le h, List.take_of_length_le (by omega)]
      · rw [show m = 8 by omega]
    have rs := (rd_take8 p)
    rw [← ht8] at rs
    have hmin : (if (p.length : Int) ≤ 8 then (p.length : Int) else 8) = (m : Int) := by split <;> omega
    have RM := (sl.upto hml).rd_ (by omega)
    have hw : (p.length : Int) ≤ 8 ∧ m = p.length ∨ ¬ (p.length : Int) ≤ 8 ∧ m = 8 := by omega
    by_cases hr : rdS p = 0
    · have e1 : numN p 0 = 0 := by rw [numN, if_neg (by simp [hr])]
      have e2 : numL p 0 = p := by rw [numL, if_pos rfl, hr]; rfl
      have e3 : numE p 0 = 2 := by rw [numE, if_pos ⟨rfl, hr⟩]
      rw [e1, e2, e3]
      have CT := take_no A c (p.take m) w.drew RM.drew (H.out.bytes.take m) (by omega) (by omega) (by rw [rs.1]; exact hr)
      rw [htl] at CT
      have CT' := Lib.hid CT
      clear CT e1 e2 e3 rs ht8 htl hr hmin RM sl hm
      rcases hw with ⟨hw1, hw2⟩ | ⟨hw1, hw2⟩
      all_goals
        subst hw2
        go_enter Tryd.func49, Tryd.ntmps49
        go_wp2_with fail
        go_region
        have d1 : w.drew.cell? ⟨g, 1, none⟩ = some (.int .i64 0) := c1
        have df1 : w.drew.frozen? ⟨g, 1, none⟩ = false := f1
        clear c0 d0 c1 f0 f1
        go_wp2_with fail
        refine CT'.out.mono ?_
        rintro q w1 ⟨rfl, rfl⟩
        go_wp2
        go_ret
        exact ⟨rfl, H.out.drew.setE 2, only_set (g := g) (p := ⟨g, 1, none⟩) (only_drew1 (only_refl w (some g))) rfl _⟩
    · have e1 : numN p 0 = rdN p := by rw [numN, if_pos ⟨rfl, hr⟩]
      have e2 : numL p 0 = p.drop (rdS p) := by rw [numL, if_pos rfl]
      have e3 : numE p 0 = 0 := by rw [numE, if_neg (by simp [hr])]
      rw [e1, e2, e3]
      have h8 := rdS_le8 p
      have hsl := rdS_le p
      have hsm2 : rdS p ≤ m := by rw [← rs.1]; have := rdS_le (p.take m); omega
      have CT := take_yes A c (p.take m) w.drew RM.drew (H.out.bytes.take m) (by omega) (by omega) (by rw [rs.1]; exact hr)
      rw [htl, rs.1, rs.2] at CT
      obtain ⟨s, hs⟩ : ∃ s, s = rdS p := ⟨_, rfl⟩
      obtain ⟨N, hN⟩ : ∃ N, N = rdN p := ⟨_, rfl⟩
      rw [← hs] at CT h8 hsl hsm2 ⊢
      rw [← hN] at CT ⊢
      obtain ⟨q, hq⟩ : ∃ q, q = (p.take m).drop s := ⟨_, rfl⟩
      have hql : q.length = m - s := by rw [hq, List.length_drop, htl]
      rw [← hq] at CT
      have hqB : (q.length : Int) ≤ 8 := by omega
      have CT' := Lib.hid CT
      have SLF := Lib.hid (sl.from_ hsl)
      obtain ⟨A2, hA2⟩ : ∃ A2, A2 = (if c = s then A else A.map (·.add (s * 1))) := ⟨_, rfl⟩
      rw [← hA2] at SLF
      have SF := Lib.hid (fun (z : Int) (hz : z = s) W => hA2 ▸ slice_from_is A c p.length s .i64 z hz hsl hlc W)
      have HQL := Lib.hid hql
      clear CT e1 e2 e3 rs ht8 htl hr hmin RM sl hm hs hN hq hql hA2
      rcases hw with ⟨hw1, hw2⟩ | ⟨hw1, hw2⟩
      · subst hw2
        have s2 := SF.out ((p.length : Int) - (q.length : Int)) (by have := HQL.out; omega)
        clear SF
        go_enter Tryd.func49, Tryd.ntmps49
        go_wp2_with fail
        go_region
        have HD0 := Lib.hid d0
        have HF0 := Lib.hid (show w.drew.frozen? ⟨g, 0, none⟩ = false from f0)
        clear c0 d0 c1 f0 f1
        go_wp2_with fail
        refine CT'.out.mono ?_
        rintro z w1 ⟨A', c', rfl, o1, b1⟩
        have k0 : w1.cell? ⟨g, 0, none⟩ = some (.slice A p.length c) := by rw [b1.cell (p := ⟨g, 0, none⟩) hlt]; exact HD0.out
        have kf0 : w1.frozen? ⟨g, 0, none⟩ = false := by rw [b1.frozen (p := ⟨g, 0, none⟩) hlt]; exact HF0.out
        have kd0 : w1.drew.cell? ⟨g, 0, none⟩ = some (.slice A p.length c) := k0
        have kdf0 : w1.drew.frozen? ⟨g, 0, none⟩ = false := kf0
        have B1 := Lib.hid b1
        clear b1 o1
        go_wp2_with fail
        go_ret
        refine ⟨rfl, ?_, only_set (g := g) (p := ⟨g, 0, none⟩) (only_then (only_drew1 (only_refl w (some g))) (only_below B1.out (some g))) rfl _⟩
        have k2 := ((show Blk w.drew g _ _ from K.out).below B1.out hlt).set_ 0 (.slice A2 (p.length - s) (c - s))
        exact RdrO.mk_ (n := p.length - s) (A := A2) (c := c - s) (by simpa using k2) (by simp) ((SLF.out.keep (w' := w1) (fun q hq => B1.out.cell (p := q) (show q.block < w.heap.size by omega))).setCell (p := ⟨g, 0, none⟩) hB _) (H.out.bytes.drop s) hB (by simp; omega)
      · subst hw2
        have s2 := SF.out ((8 : Int) - (q.length : Int)) (by have := HQL.out; omega)
        clear SF
        go_enter Tryd.func49, Tryd.ntmps49
        go_wp2_with fail
        go_region
        have HD0 := Lib.hid d0
        have HF0 := Lib.hid (show w.drew.frozen? ⟨g, 0, none⟩ = false from f0)
        clear c0 d0 c1 f0 f1
        go_wp2_with fail
        refine CT'.out.mono ?_
        rintro z w1 ⟨A', c', rfl, o1, b1⟩
        have k0 : w1.cell? ⟨g, 0, none⟩ = some (.slice A p.length c) := by rw [b1.cell (p := ⟨g, 0, none⟩) hlt]; exact HD0.out
        have kf0 : w1.frozen? ⟨g, 0, none⟩ = false := by rw [b1.frozen (p := ⟨g, 0, none⟩) hlt]; exact HF0.out
        have kd0 : w1.drew.cell? ⟨g, 0, none⟩ = some (.slice A p.length c) := k0
        have kdf0 : w1.drew.frozen? ⟨g, 0, none⟩ = false := kf0
        have B1 := Lib.hid b1
        clear b1 o1
        go_wp2_with fail
        go_ret
        refine ⟨rfl, ?_, only_set (g := g) (p := ⟨g, 0, none⟩) (only_then (only_drew1 (only_refl w (some g))) (only_below B1.out (some g))) rfl _⟩
        have k2 := ((show Blk w.drew g _ _ from K.out).below B1.out hlt).set_ 0 (.slice A2 (p.length - s) (c - s))
        exact RdrO.mk_ (n := p.length - s) (A := A2) (c := c - s) (by simpa using k2) (by simp) ((SLF.out.keep (w' := w1) (fun q hq => B1.out.cell (p := q) (show q.block < w.heap.size by omega))).setCell (p := ⟨g, 0, none⟩) hB _) (H.out.bytes.drop s) hB (by simp; omega)
  · have hz : (e == 0) = false := by simpa using h0
    rw [show numN p e = 0 from if_neg (by simp [h0]), show numL p e = p from if_neg h0, show numE p e = e from if_neg (by simp [h0])]
    clear sl
    go_enter Tryd.func49, Tryd.ntmps49
    go_wp2
    go_ret
    exact ⟨rfl, H.out, only_refl _ _⟩
end Go.Proofs.YtpaglcojbcndoaaDoor
