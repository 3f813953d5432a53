/-
  The reader: Need, Left, take.
-/
import Derived.Test.YtpaglcojbcndoaaDoorScanA
namespace Go.Proofs.YtpaglcojbcndoaaDoor
open Go.RowKit
set_option linter.unusedVariables false

/-- A slice of bytes that lie in blocks below B. -/
structure SlB (w : World) (B : Nat) (A : Option Addr) (c : Nat) (l : List Int) : Prop where
  rd : Reads w B 1 A l.length (U8 l)
  le : l.length ≤ c
  max : c ≤ 9223372036854775807
  nil : A = none → c = 0
theorem SlB.none_ (w : World) (B : Nat) : SlB w B none 0 [] := ⟨⟨by simp [U8], fun h => absurd h (by simp)⟩, by simp, by omega, fun _ => rfl⟩
theorem SlB.keep {w w' : World} {B : Nat} {A : Option Addr} {c : Nat} {l : List Int} (h : SlB w B A c l) (hk : ∀ p : Addr, p.block < B → w'.cell? p = w.cell? p) : SlB w' B A c l := ⟨h.rd.keep hk, h.le, h.max, h.nil⟩
theorem SlB.grown {w w' : World} {B g : Nat} {A : Option Addr} {c : Nat} {l : List Int} (h : SlB w B A c l) (hg : w.grownBy w' (some g)) (hB : B ≤ w.heap.size) (hr : B ≤ g) : SlB w' B A c l :=
  ⟨h.rd.grown hg hB (by rintro _ ⟨⟩; exact hr), h.le, h.max, h.nil⟩
theorem SlB.setCell {w : World} {B : Nat} {A : Option Addr} {c : Nat} {l : List Int} (h : SlB w B A c l) {p : Addr} (hB : B ≤ p.block) (u : Value) : SlB (w.setCell p u) B A c l := ⟨h.rd.setCell hB u, h.le, h.max, h.nil⟩
theorem slice_upto_is (A : Option Addr) (c n k : Nat) (kd : IntKind) (z : Int) (hz : z = k) (hk : k ≤ n) (hc : n ≤ c) (w : World) :
    (Instr.slice 25 (.slice A n c) none (some (.int kd z)) none).run Tryd.prog w = .ok (.slice A k c) w := by
  subst hz
  rw [run_slice_h (P := Tryd.prog) w 25 A n c (by rw [elem_u8]; exact Tryd.underlying25) kd (k : Int) (by omega) (by omega), elem_u8, run_sizeOf_u8]
  cases A <;> simp [sliced, Addr.add]
theorem slice_from_is (A : Option Addr) (c n k : Nat) (kd : IntKind) (z : Int) (hz : z = k) (hk : k ≤ n) (hc : n ≤ c) (w : World) :
    (Instr.slice 25 (.slice A n c) (some (.int kd z)) none none).run Tryd.prog w = .ok (.slice (if c = k then A else A.map (·.add (k * 1))) (n - k) (c - k)) w := by
  subst hz
  rw [run_slice_l (P := Tryd.prog) w 25 A n c (by rw [elem_u8]; exact Tryd.underlying25) kd (k : Int) (by omega) (by omega), elem_u8, run_sizeOf_u8]
  simp [sliced]
theorem SlB.upto {w : World} {B : Nat} {A : Option Addr} {c : Nat} {l : List Int} (h : SlB w B A c l) {k : Nat} (hk : k ≤ l.length) : SlB w B A c (l.take k) := by
  have e : (l.take k).length = k := by simp [hk]
  have hl := h.le
  refine ⟨?_, by omega, h.max, h.nil⟩
  have := h.rd.upto hk
  rw [Nat.mul_one] at this
  rw [e, U8_take]
  exact this
theorem SlB.from_ {w : World} {B : Nat} {A : Option Addr} {c : Nat} {l : List Int} (h : SlB w B A c l) {k : Nat} (hk : k ≤ l.length) : SlB w B (if c = k then A else A.map (·.add (k * 1))) (c - k) (l.drop k) := by
  have e : (l.drop k).length = l.length - k := by simp
  have hl := h.le
  refine ⟨?_, by omega, by have := h.max; omega, fun hn => ?_⟩
  · have := h.rd.cut hk hl
    simp only [Nat.mul_one] at this ⊢
    rw [e, U8_drop]
    exact this
  · split at hn
    · have := h.nil hn; omega
    · cases A with
      | none => have := h.nil rfl; omega
      | some a => cases hn
theorem Rdr.sl {w : World} {g B : Nat} {p : List Int} {e : Int} (h : Rdr w g B p e) : ∃ (A : Option Addr) (c : Nat), Blk w g 101 #[.slice A p.length c, .int .i64 e] ∧ SlB w B A c p := by
  obtain ⟨A, c, k, h1, h2, h3, h4⟩ := h.blk
  exact ⟨A, c, k, h3, h1, h2, h4⟩
theorem Rdr.mk_ {w : World} {g B : Nat} {p : List Int} {e : Int} {A : Option Addr} {c n : Nat} (k : Blk w g 101 #[.slice A n c, .int .i64 e]) (hn : n = p.length) (h : SlB w B A c p) (hb : Bytes p) (hB : B ≤ g) (hs : p.length ≤ 70368744177664) : Rdr w g B p e :=
  ⟨⟨A, c, hn ▸ k, h.le, h.max, h.rd, h.nil⟩, hb, hB, hs⟩

/-- What Need leaves as the error. -/
def needE (e : Int) (m n : Nat) : Int := if e = 0 ∧ m < n then 2 else e
theorem Need_any (g B : Nat) (p : List Int) (e : Int) (n : Nat) (w : World) (h : Rdr w g B p e) (hn : n < 18446744073709551616) :
    Calls Tryd.prog 67 #[.pointer (some ⟨g, 0, none⟩), .int .u64 n] w fun r w' => r = .returned (.tuple #[]) ∧ Rdr w' g B p (needE e p.length n) ∧ w.grownBy w' (some g) := by
  have H := Lib.hid h
  have hs := h.small
  obtain ⟨A, c, k, h1, h2, h3, h4⟩ := h.blk
  have c1 := k.cell 1
  have c0 := k.cell 0
  have f1 := k.frozen 1
  obtain ⟨R, hR⟩ : ∃ R, R = needE e p.length n := ⟨_, rfl⟩
  have HR := Lib.hid hR
  rw [← hR]
  clear hR h k h3
  by_cases h0 : e = 0
  · subst h0
    by_cases hlt : p.length < n
    · have hz : (p.length : Int) < n := by omega
      go_enter Tryd.func67, Tryd.ntmps67
      go_wp2
      exact bodyPost_end (v := .tuple #[]) (results_none (by rfl) _ _ _) (by rfl) ⟨rfl, by rw [HR.out, needE, if_pos ⟨rfl, hlt⟩]; exact H.out.setE 2, only_set (only_refl _ _) rfl _⟩
    · have hz : ¬ (p.length : Int) < n := by omega
      go_enter Tryd.func67, Tryd.ntmps67
      go_wp2
      exact bodyPost_end (v := .tuple #[]) (results_none (by rfl) _ _ _) (by rfl) ⟨rfl, by rw [HR.out, needE, if_neg (by simp [hlt])]; exact H.out, only_refl _ _⟩
  · have hz : (e == 0) = false := by simpa using h0
    have hR2 : R = e := by rw [HR.out, needE, if_neg (by simp [h0])]
    subst hR2
    go_enter Tryd.func67, Tryd.ntmps67
    go_wp2
    exact bodyPost_end (v := .tuple #[]) (results_none (by rfl) _ _ _) (by rfl) ⟨rfl, H.out, only_refl _ _⟩

/-- What is taken; what is left; the error. -/
def tkO (p : List Int) (e : Int) (n : Nat) : List Int := if e = 0 ∧ n ≤ p.length then p.take n else []
def tkL (p : List Int) (e : Int) (n : Nat) : List Int := if e = 0 ∧ n ≤ p.length then p.drop n else p
set_option maxHeartbeats 800000 in
theorem take_any (g B : Nat) (p : List Int) (e : Int) (n : Nat) (w : World) (h : Rdr w g B p e) (hn : n < 18446744073709551616) :
    Calls Tryd.prog 60 #[.pointer (some ⟨g, 0, none⟩), .int .u64 n] w fun r w' =>
      ∃ A' c', r = .returned (.slice A' (tkO p e n).length c') ∧ SlB w' B A' c' (tkO p e n) ∧ Rdr w' g B (tkL p e n) (needE e p.length n) ∧ w.grownBy w' (some g) := by
  have hgl := h.lt
  have hgB := h.le
  have HS := h.small
  have HB := Lib.hid h.bytes
  have CN := Lib.hid (Need_any g B p e n w h hn)
  by_cases hok : e = 0 ∧ n ≤ p.length
  · obtain ⟨rfl, hle⟩ := hok
    have e1 : needE 0 p.length n = 0 := by rw [needE, if_neg (by omega)]
    have e2 : tkO p 0 n = p.take n := by rw [tkO, if_pos ⟨rfl, hle⟩]
    have e3 : tkL p 0 n = p.drop n := by rw [tkL, if_pos ⟨rfl, hle⟩]
    rw [e1] at CN
    rw [e1, e2, e3]
    have ht : (p.take n).length = n := by simp [hle]
    obtain ⟨O, hO⟩ : ∃ O, O = p.take n := ⟨_, rfl⟩
    obtain ⟨L, hL⟩ : ∃ L, L = p.drop n := ⟨_, rfl⟩
    rw [← hO, ← hL]
    rw [← hO] at ht
    rw [ht]
    have HO := Lib.hid hO
    have HL := Lib.hid hL
    have HT := Lib.hid ht
    clear e1 e2 e3 hO hL h ht
    go_enter Tryd.func60, Tryd.ntmps60
    go_wp2_with fail
    refine CN.out.mono ?_
    rintro r w1 ⟨rfl, r1, g1⟩
    obtain ⟨A, c, k, sl⟩ := r1.sl
    have c0 := k.cell 0
    have c1 := k.cell 1
    have f0 := k.frozen 0
    have hlc := sl.le
    have s1 := slice_upto_is A c p.length n .u64 n rfl hle hlc
    have s2 := slice_from_is A c p.length n .u64 n rfl hle hlc
    have SLU := Lib.hid (sl.upto hle)
    have SLF := Lib.hid (sl.from_ hle)
    obtain ⟨A2, hA2⟩ : ∃ A2, A2 = (if c = n then A else A.map (·.add (n * 1))) := ⟨_, rfl⟩
    rw [← hA2] at s2 SLF
    have K := Lib.hid k
    have G1 := Lib.hid g1
    clear hA2 r1 k sl g1 CN
    go_wp2
    go_ret
    refine ⟨_, _, rfl, ?_, ?_, ?_⟩
    · rw [HO.out]
      exact SLU.out.setCell (p := ⟨g, 0, none⟩) hgB _
    · have k2 := K.out.set_ 0 (.slice A2 (p.length - n) (c - n))
      refine Rdr.mk_ (n := p.length - n) (A := A2) (c := c - n) (by simpa using k2) (by rw [HL.out]; simp) ?_ (by rw [HL.out]; exact HB.out.drop n) hgB (by rw [HL.out]; simp; omega)
      rw [HL.out]
      exact SLF.out.setCell (p := ⟨g, 0, none⟩) hgB _
    · exact only_set G1.out rfl _
  · have e2 : tkO p e n = [] := by rw [tkO, if_neg hok]
    have e3 : tkL p e n = p := by rw [tkL, if_neg hok]
    have hE : needE e p.length n ≠ 0 := by
      unfold needE
      split
      · omega
      · rename_i h1; intro h0; exact hok ⟨h0, by omega⟩
    rw [e2, e3]
    obtain ⟨E, hEE⟩ : ∃ E, E = needE e p.length n := ⟨_, rfl⟩
    rw [← hEE] at hE CN ⊢
    have hz : (E == 0) = false := by simpa using hE
    clear hEE e2 e3 h
    go_enter Tryd.func60, Tryd.ntmps60
    go_wp2_with fail
    refine CN.out.mono ?_
    rintro r w1 ⟨rfl, r1, g1⟩
    have R1 := Lib.hid r1
    obtain ⟨A, c, k, sl⟩ := r1.sl
    have c1 := k.cell 1
    clear r1 k sl CN
    go_wp2
    go_ret
    exact ⟨none, 0, rfl, SlB.none_ _ _, R1.out, g1⟩
end Go.Proofs.YtpaglcojbcndoaaDoor
