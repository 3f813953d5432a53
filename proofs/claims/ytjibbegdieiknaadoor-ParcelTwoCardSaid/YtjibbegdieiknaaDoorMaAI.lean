/-
  The reader of package scan.
-/
import Derived.Test.YtjibbegdieiknaaDoorMaAH
import Derived.Test.YtjibbegdieiknaaDoorMaAB
import Derived.Test.YtjibbegdieiknaaDoorMaAA
import Derived.Laws.MathBits
import Derived.Lib.Hide
namespace Go.Proofs.YtjibbegdieiknaaDoor
open Go.RowKit
set_option linter.unusedVariables false

/-- The reader's block stands at g: the bytes p are left, in blocks below B; its error is e. -/
structure Rdr (w : World) (g B : Nat) (p : List Int) (e : Int) : Prop where
  blk : ∃ (A : Option Addr) (c : Nat), Blk w g 129 #[.slice A p.length c, .int .i64 e] ∧ p.length ≤ c ∧ c ≤ 9223372036854775807 ∧ Reads w B 1 A p.length (U8 p) ∧ (A = none → c = 0)
  bytes : Bytes p
  le : B ≤ g
  small : p.length ≤ 70368744177664
theorem Rdr.lt {w : World} {g B : Nat} {p : List Int} {e : Int} (h : Rdr w g B p e) : g < w.heap.size := by
  obtain ⟨A, c, k, _⟩ := h.blk
  exact k.lt
theorem Rdr.below {w w' : World} {g B : Nat} {p : List Int} {e : Int} (h : Rdr w g B p e) (hb : Below w.heap.size w w') : Rdr w' g B p e := by
  have hl := h.lt
  obtain ⟨A, c, k, h1, h2, h3, h4⟩ := h.blk
  exact ⟨⟨A, c, k.below hb hl, h1, h2, h3.keep (fun q hq => hb.cell (p := q) (by have := h.le; omega)), h4⟩, h.bytes, h.le, h.small⟩
theorem Rdr.drew {w : World} {g B : Nat} {p : List Int} {e : Int} (h : Rdr w g B p e) : Rdr w.drew g B p e := ⟨h.blk, h.bytes, h.le, h.small⟩
theorem only_refl (w : World) (row : Option Nat) : w.grownBy w row := World.grownBy.refl w row
theorem only_below {a w : World} (h : Below a.heap.size a w) (row : Option Nat) : a.grownBy w row := ⟨h.os, h.tape, h.output, h.size, fun i hi _ => h.block i hi⟩
theorem only_then {a b c : World} {row : Option Nat} (h : a.grownBy b row) (k : b.grownBy c row) : a.grownBy c row :=
  ⟨k.os.trans h.os, k.tape.trans h.tape, k.output.trans h.output, Nat.le_trans h.size k.size, fun i hi hne => (k.block i (Nat.lt_of_lt_of_le hi h.size) hne).trans (h.block i hi hne)⟩
theorem only_set {a w : World} {g : Nat} (h : a.grownBy w (some g)) {p : Addr} (hp : p.block = g) (u : Value) : a.grownBy (w.setCell p u) (some g) :=
  ⟨h.os, h.tape, h.output, by simpa [World.setCell] using h.size, fun i hi hne => (Below.heap_setCell w p u i (by rintro rfl; exact hne (by rw [hp]))).trans (h.block i hi hne)⟩
/-- The error is set. -/
theorem Rdr.setE {w : World} {g B : Nat} {p : List Int} {e : Int} (h : Rdr w g B p e) (x : Int) : Rdr (w.setCell ⟨g, 1, none⟩ (.int .i64 x)) g B p x := by
  obtain ⟨A, c, k, h1, h2, h3, h4⟩ := h.blk
  exact ⟨⟨A, c, by simpa using k.set_ 1 (.int .i64 x), h1, h2, h3.setCell (p := ⟨g, 1, none⟩) h.le _, h4⟩, h.bytes, h.le, h.small⟩

theorem Errno_any (g B : Nat) (p : List Int) (e : Int) (w : World) (h : Rdr w g B p e) :
    Calls Tryd.prog 63 #[.pointer (some ⟨g, 0, none⟩)] w fun r w' => r = .returned (.int .i64 e) ∧ w = w' := by
  obtain ⟨A, c, k, h1, h2, h3, h4⟩ := h.blk
  have c1 := k.cell 1
  go_enter Tryd.func63, Tryd.ntmps63
  go_wp2
  go_ret
  exact ⟨rfl, rfl⟩

/-- What Must leaves as the error. -/
def mustE (e : Int) (ok : Bool) : Int := if e = 0 ∧ ok = false then 4 else e
theorem Must_any (g B : Nat) (p : List Int) (e : Int) (ok : Bool) (w : World) (h : Rdr w g B p e) :
    Calls Tryd.prog 62 #[.pointer (some ⟨g, 0, none⟩), .bool ok] w fun r w' => r = .returned (.tuple #[]) ∧ Rdr w' g B p (mustE e ok) ∧ w.grownBy w' (some g) := by
  have H := Lib.hid h
  obtain ⟨A, c, k, h1, h2, h3, h4⟩ := h.blk
  have c1 := k.cell 1
  have f1 := k.frozen 1
  obtain ⟨R, hR⟩ : ∃ R, R = mustE e ok := ⟨_, rfl⟩
  have HR := Lib.hid hR
  rw [← hR]
  clear hR h k h3
  by_cases h0 : e = 0
  · subst h0
    cases ok
    · go_enter Tryd.func62, Tryd.ntmps62
      go_wp2
      exact bodyPost_end (v := .tuple #[]) (results_none (by rfl) _ _ _) (by rfl) ⟨rfl, by rw [HR.out]; exact H.out.setE 4, only_set (only_refl _ _) rfl _⟩
    · go_enter Tryd.func62, Tryd.ntmps62
      go_wp2
      exact bodyPost_end (v := .tuple #[]) (results_none (by rfl) _ _ _) (by rfl) ⟨rfl, by rw [HR.out]; exact H.out, only_refl _ _⟩
  · have hz : (e == 0) = false := by simpa using h0
    have hR2 : R = e := by rw [HR.out, mustE, if_neg (by simp [h0])]
    subst hR2
    go_enter Tryd.func62, Tryd.ntmps62
    go_wp2
    exact bodyPost_end (v := .tuple #[]) (results_none (by rfl) _ _ _) (by rfl) ⟨rfl, H.out, only_refl _ _⟩
end Go.Proofs.YtjibbegdieiknaaDoor

/-
  The reader: Need, Left, take.
-/
namespace Go.Proofs.YtjibbegdieiknaaDoor
open Go.RowKit
set_option linter.unusedVariables false

/-- A slice of bytes that lie in blocks below B. -/
structure SlB (w : World) (B : Nat) (A : Option Addr) (c : Nat) (l : List Int) : Prop where
  rd : Reads w B 1 A l.length (U8 l)
  le : l.length ≤ c
  max : c ≤ 9223372036854775807
  nil : A = none → c = 0
theorem SlB.none_ (w : World) (B : Nat) : SlB w B none 0 [] := ⟨⟨by simp [U8], fun h => absurd h (by simp)⟩, by simp, by omega, fun _ => rfl⟩
theorem SlB.keep {w w' : World} {B : Nat} {A : Option Addr} {c : Nat} {l : List Int} (h : SlB w B A c l) (hk : ∀ p : Addr, p.block < B → w'.cell? p = w.cell? p) : SlB w' B A c l := ⟨h.rd.keep hk, h.le, h.max, h.nil⟩
theorem SlB.grown {w w' : World} {B g : Nat} {A : Option Addr} {c : Nat} {l : List Int} (h : SlB w B A c l) (hg : w.grownBy w' (some g)) (hB : B ≤ w.heap.size) (hr : B ≤ g) : SlB w' B A c l :=
  ⟨h.rd.grown hg hB (by rintro _ ⟨⟩; exact hr), h.le, h.max, h.nil⟩
theorem SlB.setCell {w : World} {B : Nat} {A : Option Addr} {c : Nat} {l : List Int} (h : SlB w B A c l) {p : Addr} (hB : B ≤ p.block) (u : Value) : SlB (w.setCell p u) B A c l := ⟨h.rd.setCell hB u, h.le, h.max, h.nil⟩
theorem slice_upto_is (A : Option Addr) (c n k : Nat) (kd : IntKind) (z : Int) (hz : z = k) (hk : k ≤ n) (hc : n ≤ c) (w : World) :
    (Instr.slice 23 (.slice A n c) none (some (.int kd z)) none).run Tryd.prog w = .ok (.slice A k c) w := by
  subst hz
  rw [run_slice_h (P := Tryd.prog) w 23 A n c (by rw [elem_u8]; exact Tryd.underlying23) kd (k : Int) (by omega) (by omega), elem_u8, run_sizeOf_u8]
  cases A <;> simp [sliced, Addr.add]
theorem slice_from_is (A : Option Addr) (c n k : Nat) (kd : IntKind) (z : Int) (hz : z = k) (hk : k ≤ n) (hc : n ≤ c) (w : World) :
    (Instr.slice 23 (.slice A n c) (some (.int kd z)) none none).run Tryd.prog w = .ok (.slice (if c = k then A else A.map (·.add (k * 1))) (n - k) (c - k)) w := by
  subst hz
  rw [run_slice_l (P := Tryd.prog) w 23 A n c (by rw [elem_u8]; exact Tryd.underlying23) kd (k : Int) (by omega) (by omega), elem_u8, run_sizeOf_u8]
  simp [sliced]
theorem SlB.upto {w : World} {B : Nat} {A : Option Addr} {c : Nat} {l : List Int} (h : SlB w B A c l) {k : Nat} (hk : k ≤ l.length) : SlB w B A c (l.take k) := by
  have e : (l.take k).length = k := by simp [hk]
  have hl := h.le
  refine ⟨?_, by omega, h.max, h.nil⟩
  have := h.rd.upto hk
  rw [Nat.mul_one] at this
  rw [e, U8_take]
  exact this
theorem SlB.from_ {w : World} {B : Nat} {A : Option Addr} {c : Nat} {l : List Int} (h : SlB w B A c l) {k : Nat} (hk : k ≤ l.length) : SlB w B (if c = k then A else A.map (·.add (k * 1))) (c - k) (l.drop k) := by
  have e : (l.drop k).length = l.length - k := by simp
  have hl := h.le
  refine ⟨?_, by omega, by have := h.max; omega, fun hn => ?_⟩
  · have := h.rd.cut hk hl
    simp only [Nat.mul_one] at this ⊢
    rw [e, U8_drop]
    exact this
  · split at hn
    · have := h.nil hn; omega
    · cases A with
      | none => have := h.nil rfl; omega
      | some a => cases hn
theorem Rdr.sl {w : World} {g B : Nat} {p : List Int} {e : Int} (h : Rdr w g B p e) : ∃ (A : Option Addr) (c : Nat), Blk w g 129 #[.slice A p.length c, .int .i64 e] ∧ SlB w B A c p := by
  obtain ⟨A, c, k, h1, h2, h3, h4⟩ := h.blk
  exact ⟨A, c, k, h3, h1, h2, h4⟩
theorem Rdr.mk_ {w : World} {g B : Nat} {p : List Int} {e : Int} {A : Option Addr} {c n : Nat} (k : Blk w g 129 #[.slice A n c, .int .i64 e]) (hn : n = p.length) (h : SlB w B A c p) (hb : Bytes p) (hB : B ≤ g) (hs : p.length ≤ 70368744177664) : Rdr w g B p e :=
  ⟨⟨A, c, hn ▸ k, h.le, h.max, h.rd, h.nil⟩, hb, hB, hs⟩

/-- What Need leaves as the error. -/
def needE (e : Int) (m n : Nat) : Int := if e = 0 ∧ m < n then 2 else e
theorem Need_any (g B : Nat) (p : List Int) (e : Int) (n : Nat) (w : World) (h : Rdr w g B p e) (hn : n < 18446744073709551616) :
    Calls Tryd.prog 100 #[.pointer (some ⟨g, 0, none⟩), .int .u64 n] w fun r w' => r = .returned (.tuple #[]) ∧ Rdr w' g B p (needE e p.length n) ∧ w.grownBy w' (some g) := by
  have H := Lib.hid h
  have hs := h.small
  obtain ⟨A, c, k, h1, h2, h3, h4⟩ := h.blk
  have c1 := k.cell 1
  have c0 := k.cell 0
  have f1 := k.frozen 1
  obtain ⟨R, hR⟩ : ∃ R, R = needE e p.length n := ⟨_, rfl⟩
  have HR := Lib.hid hR
  rw [← hR]
  clear hR h k h3
  by_cases h0 : e = 0
  · subst h0
    by_cases hlt : p.length < n
    · have hz : (p.length : Int) < n := by omega
      go_enter Tryd.func100, Tryd.ntmps100
      go_wp2
      exact bodyPost_end (v := .tuple #[]) (results_none (by rfl) _ _ _) (by rfl) ⟨rfl, by rw [HR.out, needE, if_pos ⟨rfl, hlt⟩]; exact H.out.setE 2, only_set (only_refl _ _) rfl _⟩
    · have hz : ¬ (p.length : Int) < n := by omega
      go_enter Tryd.func100, Tryd.ntmps100
      go_wp2
      exact bodyPost_end (v := .tuple #[]) (results_none (by rfl) _ _ _) (by rfl) ⟨rfl, by rw [HR.out, needE, if_neg (by simp [hlt])]; exact H.out, only_refl _ _⟩
  · have hz : (e == 0) = false := by simpa using h0
    have hR2 : R = e := by rw [HR.out, needE, if_neg (by simp [h0])]
    subst hR2
    go_enter Tryd.func100, Tryd.ntmps100
    go_wp2
    exact bodyPost_end (v := .tuple #[]) (results_none (by rfl) _ _ _) (by rfl) ⟨rfl, H.out, only_refl _ _⟩

/-- What is taken; what is left; the error. -/
def tkO (p : List Int) (e : Int) (n : Nat) : List Int := if e = 0 ∧ n ≤ p.length then p.take n else []
def tkL (p : List Int) (e : Int) (n : Nat) : List Int := if e = 0 ∧ n ≤ p.length then p.drop n else p
set_option maxHeartbeats 800000 in
theorem take_any (g B : Nat) (p : List Int) (e : Int) (n : Nat) (w : World) (h : Rdr w g B p e) (hn : n < 18446744073709551616) :
    Calls Tryd.prog 89 #[.pointer (some ⟨g, 0, none⟩), .int .u64 n] w fun r w' =>
      ∃ A' c', r = .returned (.slice A' (tkO p e n).length c') ∧ SlB w' B A' c' (tkO p e n) ∧ Rdr w' g B (tkL p e n) (needE e p.length n) ∧ w.grownBy w' (some g) := by
  have hgl := h.lt
  have hgB := h.le
  have HS := h.small
  have HB := Lib.hid h.bytes
  have CN := Lib.hid (Need_any g B p e n w h hn)
  by_cases hok : e = 0 ∧ n ≤ p.length
  · obtain ⟨rfl, hle⟩ := hok
    have e1 : needE 0 p.length n = 0 := by rw [needE, if_neg (by omega)]
    have e2 : tkO p 0 n = p.take n := by rw [tkO, if_pos ⟨rfl, hle⟩]
    have e3 : tkL p 0 n = p.drop n := by rw [tkL, if_pos ⟨rfl, hle⟩]
    rw [e1] at CN
    rw [e1, e2, e3]
    have ht : (p.take n).length = n := by simp [hle]
    obtain ⟨O, hO⟩ : ∃ O, O = p.take n := ⟨_, rfl⟩
    obtain ⟨L, hL⟩ : ∃ L, L = p.drop n := ⟨_, rfl⟩
    rw [← hO, ← hL]
    rw [← hO] at ht
    rw [ht]
    have HO := Lib.hid hO
    have HL := Lib.hid hL
    have HT := Lib.hid ht
    clear e1 e2 e3 hO hL h ht
    go_enter Tryd.func89, Tryd.ntmps89
    go_wp2_with fail
    refine CN.out.mono ?_
    rintro r w1 ⟨rfl, r1, g1⟩
    obtain ⟨A, c, k, sl⟩ := r1.sl
    have c0 := k.cell 0
    have c1 := k.cell 1
    have f0 := k.frozen 0
    have hlc := sl.le
    have s1 := slice_upto_is A c p.length n .u64 n rfl hle hlc
    have s2 := slice_from_is A c p.length n .u64 n rfl hle hlc
    have SLU := Lib.hid (sl.upto hle)
    have SLF := Lib.hid (sl.from_ hle)
    obtain ⟨A2, hA2⟩ : ∃ A2, A2 = (if c = n then A else A.map (·.add (n * 1))) := ⟨_, rfl⟩
    rw [← hA2] at s2 SLF
    have K := Lib.hid k
    have G1 := Lib.hid g1
    clear hA2 r1 k sl g1 CN
    go_wp2
    go_ret
    refine ⟨_, _, rfl, ?_, ?_, ?_⟩
    · rw [HO.out]
      exact SLU.out.setCell (p := ⟨g, 0, none⟩) hgB _
    · have k2 := K.out.set_ 0 (.slice A2 (p.length - n) (c - n))
      refine Rdr.mk_ (n := p.length - n) (A := A2) (c := c - n) (by simpa using k2) (by rw [HL.out]; simp) ?_ (by rw [HL.out]; exact HB.out.drop n) hgB (by rw [HL.out]; simp; omega)
      rw [HL.out]
      exact SLF.out.setCell (p := ⟨g, 0, none⟩) hgB _
    · exact only_set G1.out rfl _
  · have e2 : tkO p e n = [] := by rw [tkO, if_neg hok]
    have e3 : tkL p e n = p := by rw [tkL, if_neg hok]
    have hE : needE e p.length n ≠ 0 := by
      unfold needE
      split
      · omega
      · rename_i h1; intro h0; exact hok ⟨h0, by omega⟩
    rw [e2, e3]
    obtain ⟨E, hEE⟩ : ∃ E, E = needE e p.length n := ⟨_, rfl⟩
    rw [← hEE] at hE CN ⊢
    have hz : (E == 0) = false := by simpa using hE
    clear hEE e2 e3 h
    go_enter Tryd.func89, Tryd.ntmps89
    go_wp2_with fail
    refine CN.out.mono ?_
    rintro r w1 ⟨rfl, r1, g1⟩
    have R1 := Lib.hid r1
    obtain ⟨A, c, k, sl⟩ := r1.sl
    have c1 := k.cell 1
    clear r1 k sl CN
    go_wp2
    go_ret
    exact ⟨none, 0, rfl, SlB.none_ _ _, R1.out, g1⟩
end Go.Proofs.YtjibbegdieiknaaDoor

/-
  The reader: New, Left, Byte, Bytes, Number.
-/
namespace Go.Proofs.YtjibbegdieiknaaDoor
open Go.RowKit
set_option linter.unusedVariables false

theorem only_drew1 {a w : World} {row : Option Nat} (h : a.grownBy w row) : a.grownBy w.drew row := ⟨h.os, h.tape, h.output, h.size, h.block⟩
theorem SlB.rd_ {w : World} {B : Nat} {A : Option Addr} {c : Nat} {l : List Int} (h : SlB w B A c l) (hB : B ≤ w.heap.size) : Rd w A l := Reads.more h.rd hB

theorem New_any (A : Option Addr) (c : Nat) (p : List Int) (w : World) (h : Sl w A c p) (hb : Bytes p) (hl : p.length ≤ 70368744177664) :
    Calls Tryd.prog 60 #[.slice A p.length c] w fun r w' => ∃ g, r = .returned (.pointer (some ⟨g, 0, none⟩)) ∧ Rdr w' g w.heap.size p 0 ∧ Below w.heap.size w w' := by
  have H := Lib.hid h
  have HB := Lib.hid hb
  clear h hb
  go_enter Tryd.func60, Tryd.ntmps60
  go_wp2
  go_ret
  refine ⟨_, rfl, Rdr.mk_ (A := A) (c := c) (n := p.length) (Blk.new w _ _) rfl ⟨Reads.alloc H.out.rd (Nat.le_refl _) _, H.out.le, H.out.max, H.out.nil⟩ HB.out (Nat.le_refl _) hl, (Below.refl _ _).alloc (Nat.le_refl _) _⟩

def leftV (p : List Int) (e : Int) : List Int := if e = 0 then p else []
theorem Left_any (g B : Nat) (p : List Int) (e : Int) (w : World) (h : Rdr w g B p e) :
    Calls Tryd.prog 64 #[.pointer (some ⟨g, 0, none⟩)] w fun r w' => ∃ A' c', r = .returned (.slice A' (leftV p e).length c') ∧ SlB w B A' c' (leftV p e) ∧ w = w' := by
  obtain ⟨A, c, k, sl⟩ := h.sl
  have c1 := k.cell 1
  have c0 := k.cell 0
  have S := Lib.hid sl
  clear sl k h
  by_cases h0 : e = 0
  · subst h0
    rw [show leftV p 0 = p from if_pos rfl]
    go_enter Tryd.func64, Tryd.ntmps64
    go_wp2
    go_ret
    exact ⟨A, c, rfl, S.out, rfl⟩
  · have hz : (e == 0) = false := by simpa using h0
    rw [show leftV p e = [] from if_neg h0]
    go_enter Tryd.func64, Tryd.ntmps64
    go_wp2
    go_ret
    exact ⟨none, 0, rfl, SlB.none_ _ _, rfl⟩

def byteV (p : List Int) (e : Int) : Int := if e = 0 then p.headD 0 else 0
theorem Byte_any (g B : Nat) (p : List Int) (e : Int) (w : World) (h : Rdr w g B p e) :
    Calls Tryd.prog 79 #[.pointer (some ⟨g, 0, none⟩)] w fun r w' => r = .returned (.int .u8 (byteV p e)) ∧ Rdr w' g B (tkL p e 1) (needE e p.length 1) ∧ w.grownBy w' (some g) := by
  have CT := Lib.hid (take_any g B p e 1 w h (by omega))
  have hB := h.le
  have hlt := h.lt
  by_cases hok : e = 0 ∧ 1 ≤ p.length
  · obtain ⟨rfl, hle⟩ := hok
    obtain ⟨x, r, rfl⟩ : ∃ x r, p = x :: r := by cases p with | nil => simp at hle | cons x r => exact ⟨x, r, rfl⟩
    have e1 : tkO (x :: r) 0 1 = [x] := by rw [tkO, if_pos ⟨rfl, hle⟩]; rfl
    rw [show byteV (x :: r) 0 = x from rfl]
    rw [e1] at CT
    obtain ⟨L, hL⟩ : ∃ L, L = tkL (x :: r) 0 1 := ⟨_, rfl⟩
    obtain ⟨E, hE⟩ : ∃ E, E = needE 0 (x :: r).length 1 := ⟨_, rfl⟩
    rw [← hL, ← hE] at CT ⊢
    clear hL hE h e1 hle
    go_enter Tryd.func79, Tryd.ntmps79
    go_wp2_with fail
    refine CT.out.mono ?_
    rintro q w1 ⟨A', c', rfl, sl, r1, g1⟩
    have hsz : B ≤ w1.heap.size := by have := g1.size; omega
    obtain ⟨b, off, rfl, hbw⟩ := (sl.rd_ hsz).some_ (by simp)
    have hc := (sl.rd_ hsz).cell (j := 0) (x := x) rfl
    rw [Nat.add_zero] at hc
    have hl1 : ([x] : List Int).length = 1 := rfl
    have R1 := Lib.hid r1
    have G1 := Lib.hid g1
    clear r1 g1 sl CT
    go_wp2
    go_ret
    exact ⟨rfl, R1.out, G1.out⟩
  · have e2 : tkO p e 1 = [] := by rw [tkO, if_neg hok]
    have e3 : byteV p e = 0 := by
      unfold byteV
      split
      · rename_i h0
        cases p with
        | nil => rfl
        | cons x r => exact absurd ⟨h0, by simp⟩ hok
      · rfl
    rw [e2] at CT
    rw [e3]
    obtain ⟨L, hL⟩ : ∃ L, L = tkL p e 1 := ⟨_, rfl⟩
    obtain ⟨E, hE⟩ : ∃ E, E = needE e p.length 1 := ⟨_, rfl⟩
    rw [← hL, ← hE] at CT ⊢
    clear hL hE h e2 e3 hok
    have hl1 : ([] : List Int).length = 0 := rfl
    rw [hl1] at CT
    go_enter Tryd.func79, Tryd.ntmps79
    go_wp2_with fail
    refine CT.out.mono ?_
    rintro q w1 ⟨A', c', rfl, sl, r1, g1⟩
    have R1 := Lib.hid r1
    have G1 := Lib.hid g1
    clear r1 g1 sl CT
    go_wp2
    go_ret
    exact ⟨rfl, R1.out, G1.out⟩

theorem RBytes_any (g B : Nat) (p : List Int) (e : Int) (n : Nat) (w : World) (h : Rdr w g B p e) (hn : n < 18446744073709551616) :
    Calls Tryd.prog 90 #[.pointer (some ⟨g, 0, none⟩), .int .u64 n] w fun r w' =>
      ∃ A' c', r = .returned (.slice A' (tkO p e n).length c') ∧ Own w' w.heap.size A' c' (tkO p e n) ∧ Rdr w' g B (tkL p e n) (needE e p.length n) ∧ w.grownBy w' (some g) := by
  have CT := Lib.hid (take_any g B p e n w h hn)
  have hB := h.le
  have hlt := h.lt
  have hsm := h.small
  obtain ⟨O, hO⟩ : ∃ O, O = tkO p e n := ⟨_, rfl⟩
  obtain ⟨L, hL⟩ : ∃ L, L = tkL p e n := ⟨_, rfl⟩
  obtain ⟨E, hE⟩ : ∃ E, E = needE e p.length n := ⟨_, rfl⟩
  have hOl : O.length ≤ 70368744177664 := by rw [hO, tkO]; split; simp; omega; simp
  rw [← hO, ← hL, ← hE] at CT ⊢
  clear hO hL hE h
  go_enter Tryd.func90, Tryd.ntmps90
  go_wp2_with fail
  refine CT.out.mono ?_
  rintro q w1 ⟨A', c', rfl, sl, r1, g1⟩
  have hsz : B ≤ w1.heap.size := by have := g1.size; omega
  have CC := Lib.hid (clone_any A' c' O w1 (sl.rd_ hsz) hOl (fun hA => by
    have h0 := sl.nil hA
    have h1 := sl.le
    exact ⟨List.eq_nil_of_length_eq_zero (by omega), h0⟩))
  have R1 := Lib.hid r1
  have G1 := Lib.hid g1
  clear r1 g1 sl CT
  go_wp2_with fail
  refine CC.out.mono ?_
  rintro q w2 ⟨A2, c2, rfl, o2, b2⟩
  have O2 := Lib.hid (o2.base_le G1.out.size)
  have R2 := Lib.hid (R1.out.below b2)
  have G2 := Lib.hid (only_then G1.out (only_below b2 (some g)))
  clear o2 b2
  go_wp2
  go_ret
  exact ⟨_, _, rfl, O2.out, R2.out, G2.out⟩

theorem rd_take8 (p : List Int) : rdS (p.take 8) = rdS p ∧ rdN (p.take 8) = rdN p := by
  match p with
  | [] => exact ⟨rfl, rfl⟩
  | x :: r =>
    have hv := vlen_bd x
    have e : (x :: r).take 8 = x :: r.take 7 := rfl
    rw [e]
    simp only [rdS, rdN, List.length_cons, List.length_take]
    by_cases h : r.length + 1 < vlen x
    · rw [if_pos h, if_pos h, if_pos (by omega), if_pos (by omega)]; exact ⟨rfl, rfl⟩
    · rw [if_neg h, if_neg h, if_neg (by omega), if_neg (by omega), List.take_take, Nat.min_eq_left (by omega)]; exact ⟨rfl, rfl⟩
theorem rdS_le8 (p : List Int) : rdS p ≤ 8 := by
  match p with
  | [] => simp [rdS]
  | x :: r => have := vlen_bd x; simp only [rdS]; split <;> omega
def numN (p : List Int) (e : Int) : Int := if e = 0 ∧ rdS p ≠ 0 then rdN p else 0
def numL (p : List Int) (e : Int) : List Int := if e = 0 then p.drop (rdS p) else p
def numE (p : List Int) (e : Int) : Int := if e = 0 ∧ rdS p = 0 then 2 else e
set_option maxHeartbeats 800000 in
theorem Number_any (g B : Nat) (p : List Int) (e : Int) (w : World) (h : Rdr w g B p e) :
    Calls Tryd.prog 94 #[.pointer (some ⟨g, 0, none⟩)] w fun r w' => r = .returned (.int .u64 (numN p e)) ∧ Rdr w' g B (numL p e) (numE p e) ∧ w.grownBy w' (some g) := by
  have hB := h.le
  have hlt := h.lt
  have hsm := h.small
  have H := Lib.hid h
  obtain ⟨A, c, k, sl⟩ := h.sl
  have c1 : w.cell? ⟨g, 1, none⟩ = some (.int .i64 e) := k.cell 1
  have c0 : w.cell? ⟨g, 0, none⟩ = some (.slice A p.length c) := k.cell 0
  have d0 : w.drew.cell? ⟨g, 0, none⟩ = some (.slice A p.length c) := k.cell 0
  have f0 := k.frozen 0
  have f1 := k.frozen 1
  have S := Lib.hid sl
  have K := Lib.hid k
  clear h k
  by_cases h0 : e = 0
  · subst h0
    obtain ⟨m, hm⟩ : ∃ m, m = min p.length 8 := ⟨_, rfl⟩
    have hml : m ≤ p.length := by omega
    have hlc := sl.le
    have s1 := slice_upto_is A c p.length m .i64 m rfl hml hlc
    have htl : (p.take m).length = m := by simp [hml]
    have ht8 : p.take m = p.take 8 := by
      rcases Nat.le_total p.length 8 with h | h
      · rw [List.take_of_length_le h, List.take_of_length_le (by omega)]
      · rw [show m = 8 by omega]
    have rs := (rd_take8 p)
    rw [← ht8] at rs
    have hmin : (if (p.length : Int) ≤ 8 then (p.length : Int) else 8) = (m : Int) := by split <;> omega
    have RM := (sl.upto hml).rd_ (by omega)
    have hw : (p.length : Int) ≤ 8 ∧ m = p.length ∨ ¬ (p.length : Int) ≤ 8 ∧ m = 8 := by omega
    by_cases hr : rdS p = 0
    · have e1 : numN p 0 = 0 := by rw [numN, if_neg (by simp [hr])]
      have e2 : numL p 0 = p := by rw [numL, if_pos rfl, hr]; rfl
      have e3 : numE p 0 = 2 := by rw [numE, if_pos ⟨rfl, hr⟩]
      rw [e1, e2, e3]
      have CT := take_no A c (p.take m) w.drew RM.drew (H.out.bytes.take m) (by omega) (by omega) (by rw [rs.1]; exact hr)
      rw [htl] at CT
      have CT' := Lib.hid CT
      clear CT e1 e2 e3 rs ht8 htl hr hmin RM sl hm
      rcases hw with ⟨hw1, hw2⟩ | ⟨hw1, hw2⟩
      all_goals
        subst hw2
        go_enter Tryd.func94, Tryd.ntmps94
        go_wp2_with fail
        go_region
        have d1 : w.drew.cell? ⟨g, 1, none⟩ = some (.int .i64 0) := c1
        have df1 : w.drew.frozen? ⟨g, 1, none⟩ = false := f1
        clear c0 d0 c1 f0 f1
        go_wp2_with fail
        refine CT'.out.mono ?_
        rintro q w1 ⟨rfl, rfl⟩
        go_wp2
        go_ret
        exact ⟨rfl, H.out.drew.setE 2, only_set (g := g) (p := ⟨g, 1, none⟩) (only_drew1 (only_refl w (some g))) rfl _⟩
    · have e1 : numN p 0 = rdN p := by rw [numN, if_pos ⟨rfl, hr⟩]
      have e2 : numL p 0 = p.drop (rdS p) := by rw [numL, if_pos rfl]
      have e3 : numE p 0 = 0 := by rw [numE, if_neg (by simp [hr])]
      rw [e1, e2, e3]
      have h8 := rdS_le8 p
      have hsl := rdS_le p
      have hsm2 : rdS p ≤ m := by rw [← rs.1]; have := rdS_le (p.take m); omega
      have CT := take_yes A c (p.take m) w.drew RM.drew (H.out.bytes.take m) (by omega) (by omega) (by rw [rs.1]; exact hr)
      rw [htl, rs.1, rs.2] at CT
      obtain ⟨s, hs⟩ : ∃ s, s = rdS p := ⟨_, rfl⟩
      obtain ⟨N, hN⟩ : ∃ N, N = rdN p := ⟨_, rfl⟩
      rw [← hs] at CT h8 hsl hsm2 ⊢
      rw [← hN] at CT ⊢
      obtain ⟨q, hq⟩ : ∃ q, q = (p.take m).drop s := ⟨_, rfl⟩
      have hql : q.length = m - s := by rw [hq, List.length_drop, htl]
      rw [← hq] at CT
      have hqB : (q.length : Int) ≤ 8 := by omega
      have CT' := Lib.hid CT
      have SLF := Lib.hid (sl.from_ hsl)
      obtain ⟨A2, hA2⟩ : ∃ A2, A2 = (if c = s then A else A.map (·.add (s * 1))) := ⟨_, rfl⟩
      rw [← hA2] at SLF
      have SF := Lib.hid (fun (z : Int) (hz : z = s) W => hA2 ▸ slice_from_is A c p.length s .i64 z hz hsl hlc W)
      have HQL := Lib.hid hql
      clear CT e1 e2 e3 rs ht8 htl hr hmin RM sl hm hs hN hq hql hA2
      rcases hw with ⟨hw1, hw2⟩ | ⟨hw1, hw2⟩
      · subst hw2
        have s2 := SF.out ((p.length : Int) - (q.length : Int)) (by have := HQL.out; omega)
        clear SF
        go_enter Tryd.func94, Tryd.ntmps94
        go_wp2_with fail
        go_region
        have HD0 := Lib.hid d0
        have HF0 := Lib.hid (show w.drew.frozen? ⟨g, 0, none⟩ = false from f0)
        clear c0 d0 c1 f0 f1
        go_wp2_with fail
        refine CT'.out.mono ?_
        rintro z w1 ⟨A', c', rfl, o1, b1⟩
        have k0 : w1.cell? ⟨g, 0, none⟩ = some (.slice A p.length c) := by rw [b1.cell (p := ⟨g, 0, none⟩) hlt]; exact HD0.out
        have kf0 : w1.frozen? ⟨g, 0, none⟩ = false := by rw [b1.frozen (p := ⟨g, 0, none⟩) hlt]; exact HF0.out
        have kd0 : w1.drew.cell? ⟨g, 0, none⟩ = some (.slice A p.length c) := k0
        have kdf0 : w1.drew.frozen? ⟨g, 0, none⟩ = false := kf0
        have B1 := Lib.hid b1
        clear b1 o1
        go_wp2_with fail
        go_ret
        refine ⟨rfl, ?_, only_set (g := g) (p := ⟨g, 0, none⟩) (only_then (only_drew1 (only_refl w (some g))) (only_below B1.out (some g))) rfl _⟩
        have k2 := ((show Blk w.drew g _ _ from K.out).below B1.out hlt).set_ 0 (.slice A2 (p.length - s) (c - s))
        exact Rdr.mk_ (n := p.length - s) (A := A2) (c := c - s) (by simpa using k2) (by simp) ((SLF.out.keep (w' := w1) (fun q hq => B1.out.cell (p := q) (show q.block < w.heap.size by omega))).setCell (p := ⟨g, 0, none⟩) hB _) (H.out.bytes.drop s) hB (by simp; omega)
      · subst hw2
        have s2 := SF.out ((8 : Int) - (q.length : Int)) (by have := HQL.out; omega)
        clear SF
        go_enter Tryd.func94, Tryd.ntmps94
        go_wp2_with fail
        go_region
        have HD0 := Lib.hid d0
        have HF0 := Lib.hid (show w.drew.frozen? ⟨g, 0, none⟩ = false from f0)
        clear c0 d0 c1 f0 f1
        go_wp2_with fail
        refine CT'.out.mono ?_
        rintro z w1 ⟨A', c', rfl, o1, b1⟩
        have k0 : w1.cell? ⟨g, 0, none⟩ = some (.slice A p.length c) := by rw [b1.cell (p := ⟨g, 0, none⟩) hlt]; exact HD0.out
        have kf0 : w1.frozen? ⟨g, 0, none⟩ = false := by rw [b1.frozen (p := ⟨g, 0, none⟩) hlt]; exact HF0.out
        have kd0 : w1.drew.cell? ⟨g, 0, none⟩ = some (.slice A p.length c) := k0
        have kdf0 : w1.drew.frozen? ⟨g, 0, none⟩ = false := kf0
        have B1 := Lib.hid b1
        clear b1 o1
        go_wp2_with fail
        go_ret
        refine ⟨rfl, ?_, only_set (g := g) (p := ⟨g, 0, none⟩) (only_then (only_drew1 (only_refl w (some g))) (only_below B1.out (some g))) rfl _⟩
        have k2 := ((show Blk w.drew g _ _ from K.out).below B1.out hlt).set_ 0 (.slice A2 (p.length - s) (c - s))
        exact Rdr.mk_ (n := p.length - s) (A := A2) (c := c - s) (by simpa using k2) (by simp) ((SLF.out.keep (w' := w1) (fun q hq => B1.out.cell (p := q) (show q.block < w.heap.size by omega))).setCell (p := ⟨g, 0, none⟩) hB _) (H.out.bytes.drop s) hB (by simp; omega)
  · have hz : (e == 0) = false := by simpa using h0
    rw [show numN p e = 0 from if_neg (by simp [h0]), show numL p e = p from if_neg h0, show numE p e = e from if_neg (by simp [h0])]
    clear sl
    go_enter Tryd.func94, Tryd.ntmps94
    go_wp2
    go_ret
    exact ⟨rfl, H.out, only_refl _ _⟩
end Go.Proofs.YtjibbegdieiknaaDoor

/-
  The numbers of packets: window, Cut, reaches, Need, Grow.
-/
namespace Go.Proofs.YtjibbegdieiknaaDoor
open Go.RowKit
set_option linter.unusedVariables false

theorem and_m1 (z : Int) (h0 : 0 ≤ z) (h1 : z < 18446744073709551616) : bits .and .u64 z 255 = z % 256 := by go_bits2
theorem and_m2 (z : Int) (h0 : 0 ≤ z) (h1 : z < 18446744073709551616) : bits .and .u64 z 65535 = z % 65536 := by go_bits2
theorem and_m3 (z : Int) (h0 : 0 ≤ z) (h1 : z < 18446744073709551616) : bits .and .u64 z 16777215 = z % 16777216 := by go_bits2
theorem and_m4 (z : Int) (h0 : 0 ≤ z) (h1 : z < 18446744073709551616) : bits .and .u64 z 4294967295 = z % 4294967296 := by go_bits2

/-- So many bytes tell so many numbers. -/
def SW (s W : Int) : Prop := s = 1 ∧ W = 256 ∨ s = 2 ∧ W = 65536 ∨ s = 3 ∧ W = 16777216 ∨ s = 4 ∧ W = 4294967296
theorem SW.pos {s W : Int} (h : SW s W) : 256 ≤ W ∧ W ≤ 4294967296 ∧ 1 ≤ s ∧ s ≤ 4 := by unfold SW at h; omega

theorem window_any (s W : Int) (w : World) (h : SW s W) :
    Calls Tryd.prog 45 #[.int .i64 s] w fun e w' => e = .returned (.int .u64 W) ∧ w = w' := by
  rcases h with ⟨rfl, rfl⟩ | ⟨rfl, rfl⟩ | ⟨rfl, rfl⟩ | ⟨rfl, rfl⟩
  all_goals
    go_enter Tryd.func45, Tryd.ntmps45
    go_wp2
    go_ret
    exact ⟨rfl, rfl⟩

theorem cut_num (n s W : Int) (w : World) (h : SW s W) (h0 : 0 ≤ n) (h1 : n < 18446744073709551616) :
    Calls Tryd.prog 46 #[.int .u64 n, .int .i64 s] w fun e w' => e = .returned (.int .u64 (n % W)) ∧ w = w' := by
  have hW := h
  have e1 := and_m1 n h0 h1
  have e2 := and_m2 n h0 h1
  have e3 := and_m3 n h0 h1
  have e4 := and_m4 n h0 h1
  rcases h with ⟨rfl, rfl⟩ | ⟨rfl, rfl⟩ | ⟨rfl, rfl⟩ | ⟨rfl, rfl⟩
  all_goals
    go_enter Tryd.func46, Tryd.ntmps46
    go_wp2_with fail
    refine (window_any _ _ _ hW).mono ?_
    rintro e w' ⟨rfl, rfl⟩
    go_wp2
    go_ret
    exact ⟨rfl, rfl⟩

/-- So many numbers tell this one from the one that was acknowledged. -/
def reachB (pn acked : Int) (b : Bool) (W : Int) : Bool := if b then decide (pn ≤ acked) || decide (pn - acked ≤ W / 2) else decide (pn < W / 2)


/-- How few bytes tell a number. -/
def needS (pn acked : Int) (b : Bool) : Int := if reachB pn acked b 256 then 1 else if reachB pn acked b 65536 then 2 else if reachB pn acked b 16777216 then 3 else 4
theorem sw1 : SW 1 256 := .inl ⟨rfl, rfl⟩
theorem sw2 : SW 2 65536 := .inr (.inl ⟨rfl, rfl⟩)
theorem sw3 : SW 3 16777216 := .inr (.inr (.inl ⟨rfl, rfl⟩))
theorem sw4 : SW 4 4294967296 := .inr (.inr (.inr ⟨rfl, rfl⟩))



/-- The number that was meant: the next one is x. -/
def growN (x c W : Int) : Int := if x - x % W + c % W + W / 2 ≤ x ∧ x - x % W + c % W < 4611686018427387904 - W then x - x % W + c % W + W
  else if x + W / 2 < x - x % W + c % W ∧ W ≤ x - x % W + c % W then x - x % W + c % W - W else min (x - x % W + c % W) 4611686018427387903

theorem grow_ways (x n hf W R : Int) (hf0 : 128 ≤ hf) (hx : x ≤ 4611686018427387904) (p1 : 256 ≤ W)
    (hR : R = if n + hf ≤ x ∧ n < 4611686018427387904 - W then n + W else if x + hf < n ∧ W ≤ n then n - W else min n 4611686018427387903) :
    (n + hf ≤ x ∧ n < 4611686018427387904 - W ∧ R = n + W) ∨ (n + hf ≤ x ∧ ¬ n < 4611686018427387904 - W ∧ ¬ x + hf < n ∧ n ≤ 4611686018427387903 ∧ R = n) ∨
      (¬ n + hf ≤ x ∧ x + hf < n ∧ W ≤ n ∧ R = n - W) ∨ (¬ n + hf ≤ x ∧ x + hf < n ∧ ¬ W ≤ n ∧ R = min n 4611686018427387903) ∨
      (¬ n + hf ≤ x ∧ ¬ x + hf < n ∧ n ≤ 4611686018427387903 ∧ R = n) ∨ (¬ n + hf ≤ x ∧ ¬ x + hf < n ∧ 4611686018427387903 < n ∧ R = 4611686018427387903) := by
  by_cases a1 : n + hf ≤ x
  · by_cases a2 : n < 4611686018427387904 - W
    · simp only [a1, a2, and_self, if_true] at hR
      exact .inl ⟨a1, a2, hR⟩
    · have a3 : ¬ x + hf < n := by omega
      simp only [a2, a3, and_false, false_and, if_false] at hR
      exact .inr (.inl ⟨a1, a2, a3, by omega, by omega⟩)
  · by_cases a3 : x + hf < n
    · by_cases a4 : W ≤ n
      · simp only [a1, a3, a4, false_and, and_self, if_false, if_true] at hR
        exact .inr (.inr (.inl ⟨a1, a3, a4, hR⟩))
      · simp only [a1, a4, and_false, false_and, if_false] at hR
        exact .inr (.inr (.inr (.inl ⟨a1, a3, a4, hR⟩)))
    · simp only [a1, a3, false_and, if_false] at hR
      by_cases a5 : n ≤ 4611686018427387903
      · exact .inr (.inr (.inr (.inr (.inl ⟨a1, a3, a5, by omega⟩))))
      · exact .inr (.inr (.inr (.inr (.inr ⟨a1, a3, by omega, by omega⟩))))

set_option maxHeartbeats 3200000 in
theorem grow_any (L c s W x : Int) (b : Bool) (w : World) (h : SW s W) (h0 : 0 ≤ L) (h1 : L < 18446744073709551616) (h2 : 0 ≤ c) (h3 : c < 18446744073709551616)
    (hx : x = if b then min L 4611686018427387903 + 1 else 0) :
    Calls Tryd.prog 30 #[.int .u64 L, .bool b, .int .u64 c, .int .i64 s] w fun e w' => e = .returned (.int .u64 (growN x c W)) ∧ w = w' := by
  obtain ⟨p1, p2, _, _⟩ := h.pos
  have hx0 : 0 ≤ x ∧ x ≤ 4611686018427387904 := by rw [hx]; cases b <;> simp <;> omega
  obtain ⟨R, hR⟩ : ∃ R, R = growN x c W := ⟨_, rfl⟩
  obtain ⟨d, hd⟩ : ∃ d, d = x % W := ⟨_, rfl⟩
  obtain ⟨g, hg⟩ : ∃ g, g = c % W := ⟨_, rfl⟩
  have q1 : 0 ≤ d ∧ d < W ∧ d ≤ x := by
    rw [hd]
    have e1 := Int.emod_add_mul_ediv x W
    have e2 : 0 ≤ W * (x / W) := Int.mul_nonneg (by omega) (Int.ediv_nonneg hx0.1 (by omega))
    exact ⟨Int.emod_nonneg _ (by omega), Int.emod_lt_of_pos _ (by omega), by omega⟩
  have q2 : 0 ≤ g ∧ g < W := by
    rw [hg]
    exact ⟨Int.emod_nonneg _ (by omega), Int.emod_lt_of_pos _ (by omega)⟩
  obtain ⟨n, hn⟩ : ∃ n, n = x - d + g := ⟨_, rfl⟩
  obtain ⟨hf, hhf⟩ : ∃ f, f = W / 2 := ⟨_, rfl⟩
  have hR' : R = if n + hf ≤ x ∧ n < 4611686018427387904 - W then n + W else if x + hf < n ∧ W ≤ n then n - W else min n 4611686018427387903 := by
    rw [hR, growN, hn, hd, hg, hhf]
  rw [← hR]
  have C1 := Lib.hid (fun w => cut_num x s W w h hx0.1 (by omega))
  have C2 := Lib.hid (fun w => cut_num c s W w h h2 h3)
  rw [← hd] at C1
  rw [← hg] at C2
  have HW := Lib.hid (fun w => window_any s W w h)
  have q3 : 0 ≤ n ∧ n < 4611686022722355200 := by omega
  have q4 : 128 ≤ hf ∧ hf ≤ 2147483648 := by omega
  have ways := grow_ways x n hf W R q4.1 hx0.2 p1 hR'
  clear hd hg hR h hR'
  subst hn hhf
  have bx : (b = false ∧ x = 0) ∨ (b = true ∧ L ≤ 4611686018427387903 ∧ x = L + 1) ∨ (b = true ∧ 4611686018427387903 < L ∧ x = 4611686018427387904) := by
    cases b
    · left; exact ⟨rfl, by simpa using hx⟩
    · simp only [if_true] at hx
      by_cases hL : L ≤ 4611686018427387903
      · exact .inr (.inl ⟨rfl, hL, by omega⟩)
      · exact .inr (.inr ⟨rfl, by omega, by omega⟩)
  clear hx
  rcases bx with ⟨rfl, rfl⟩ | ⟨rfl, hL, rfl⟩ | ⟨rfl, hL, rfl⟩
  all_goals
    rcases ways with ⟨k1, k2, rfl⟩ | ⟨k1, k2, k3, k4, rfl⟩ | ⟨k1, k2, k3, rfl⟩ | ⟨k1, k2, k3, rfl⟩ | ⟨k1, k2, k3, rfl⟩ | ⟨k1, k2, k3, rfl⟩
  all_goals
    go_enter Tryd.func30, Tryd.ntmps30
    go_wp2_with fail
    refine (HW.out _).mono ?_
    rintro e w' ⟨rfl, rfl⟩
    go_wp2_with fail
    refine (C1.out _).mono ?_
    rintro e w' ⟨rfl, rfl⟩
    go_wp2_with fail
    refine (C2.out _).mono ?_
    rintro e w' ⟨rfl, rfl⟩
    go_wp2
    all_goals
      go_ret
      first | exact ⟨rfl, rfl⟩ | exact ⟨congrArg (fun z => Ending.returned (Value.int .u64 z)) (by omega), rfl⟩
end Go.Proofs.YtjibbegdieiknaaDoor

/-
  HeadGrows: a number that was cut is grown again.
-/
namespace Go.Proofs.YtjibbegdieiknaaDoor
open Go.RowKit
set_option linter.unusedVariables false

theorem mod_facts (x W : Int) (hx : 0 ≤ x) (hW : 0 < W) : 0 ≤ x % W ∧ x % W < W ∧ x % W ≤ x := by
  have e1 := Int.emod_add_mul_ediv x W
  have e2 : 0 ≤ W * (x / W) := Int.mul_nonneg (by omega) (Int.ediv_nonneg hx (by omega))
  exact ⟨Int.emod_nonneg _ (by omega), Int.emod_lt_of_pos _ (by omega), by omega⟩

/-- The size that is needed tells twice as many numbers as lie between. -/
theorem needS_some (pn a : Int) (h : a < pn) (hf : pn - a ≤ 2147483648) : ∃ W, SW (needS pn a true) W ∧ 2 * (pn - a) ≤ W := by
  unfold needS reachB
  simp only [if_true]
  have d : decide (pn ≤ a) = false := by simp; omega
  rw [d]
  simp only [Bool.false_or, decide_eq_true_eq]
  split
  · exact ⟨_, sw1, by omega⟩
  · split
    · exact ⟨_, sw2, by omega⟩
    · split
      · exact ⟨_, sw3, by omega⟩
      · exact ⟨_, sw4, by omega⟩
theorem needS_none (pn a : Int) (hf : pn < 2147483648) : ∃ W, SW (needS pn a false) W ∧ 2 * pn < W := by
  unfold needS reachB
  simp only [Bool.false_eq_true, if_false, decide_eq_true_eq]
  split
  · exact ⟨_, sw1, by omega⟩
  · split
    · exact ⟨_, sw2, by omega⟩
    · split
      · exact ⟨_, sw3, by omega⟩
      · exact ⟨_, sw4, by omega⟩

theorem mod_near (x y W q : Int) (hW : 0 < W) (e : x = y + W * q) (h0 : 0 ≤ y) (h1 : y < W) : x % W = y := by
  rw [e, Int.add_mul_emod_self_left, Int.emod_eq_of_lt h0 h1]

/-- The number that is meant is the closest one. -/
theorem growN_is (x pn W : Int) (hx : 0 ≤ x) (h1 : x ≤ pn) (h2 : 2 * (pn - x) < W) (hW : 256 ≤ W) (hW2 : W % 2 = 0) (hp : pn < 4611686018427387904) : growN x (pn % W % W) W = pn := by
  have ex := Int.emod_add_mul_ediv x W
  have ep := Int.emod_add_mul_ediv pn W
  have mx := mod_facts x W hx (by omega)
  have mp := mod_facts pn W (by omega) (by omega)
  have m2 : pn % W % W = pn % W := Int.emod_emod_of_dvd _ (Int.dvd_refl _)
  rw [m2]
  -- the quotients differ by at most one
  have hq : pn / W = x / W ∨ pn / W = x / W + 1 := by
    have g1 : x / W ≤ pn / W := Int.ediv_le_ediv (by omega) h1
    have g2 : pn / W ≤ (x + W) / W := Int.ediv_le_ediv (by omega) (by omega)
    rw [Int.add_ediv_of_dvd_right (Int.dvd_refl _), Int.ediv_self (by omega)] at g2
    omega
  unfold growN
  rw [m2]
  clear m2
  generalize pn % W = c at *
  generalize x % W = d at *
  have hx' : x - d = W * (x / W) := by omega
  have hp' : pn - c = W * (pn / W) := by omega
  rcases hq with hq | hq
  · rw [hq] at hp'
    have e : x - d + c = pn := by omega
    rw [e]
    generalize W * (x / W) = z at *
    rw [if_neg (by omega), if_neg (by omega)]
    omega
  · rw [hq, Int.mul_add, Int.mul_one] at hp'
    have e : x - d + c = pn - W := by omega
    rw [e]
    generalize W * (x / W) = z at *
    rw [if_pos (by omega)]
    omega


end Go.Proofs.YtjibbegdieiknaaDoor
