/-
  frame.read: a reader and a frame side by side; kindOf; takeFields of a ResetStream.
-/
import Derived.Test.YtfimngmpkckcdaaDoorScanC
import Derived.Test.YtfimngmpkckcdaaDoorFrameI
import Derived.Test.YtfimngmpkckcdaaDoorFrameA
namespace Go.Proofs.YtfimngmpkckcdaaDoor
open Go.RowKit
set_option linter.unusedVariables false

/-- The reader at g, the frame at gF; what lay below n0 in w0 lies as it lay. -/
structure RF (n0 : Nat) (w0 w : World) (g B gF : Nat) (p : List Int) (e : Int) (F : Array Value) : Prop where
  r : Rdr w g B p e
  f : Blk w gF 28 F
  b : Below n0 w0 w
  hg : n0 ≤ g
  hf : n0 ≤ gF
  hB : B ≤ gF
  h0 : n0 ≤ w0.heap.size
section
variable {n0 : Nat} {w0 w w' : World} {g B gF : Nat} {p : List Int} {e : Int} {F : Array Value}
theorem RF.ne (h : RF n0 w0 w g B gF p e F) : gF ≠ g := by
  obtain ⟨A, c, k, _⟩ := h.r.blk
  exact Blk.ne_ h.f k (by decide)
theorem RF.hs (h : RF n0 w0 w g B gF p e F) : n0 ≤ w.heap.size := Nat.le_trans h.h0 h.b.size
theorem RF.rdr {p' : List Int} {e' : Int} (h : RF n0 w0 w g B gF p e F) (hr : Rdr w' g B p' e') (hg : w.grownBy w' (some g)) : RF n0 w0 w' g B gF p' e' F :=
  ⟨hr, h.f.grown hg (by intro x; injection x with x; exact h.ne x), below_gs h.b hg h.hg h.hs, h.hg, h.hf, h.hB, h.h0⟩
theorem Rdr.other {gF : Nat} (h : Rdr w g B p e) (hg : w.grownBy w' (some gF)) (hne : g ≠ gF) (hB : B ≤ gF) : Rdr w' g B p e := by
  have hl := h.lt
  obtain ⟨A, c, k, h1, h2, h3, h4⟩ := h.blk
  exact ⟨⟨A, c, k.grown hg (by intro x; injection x with x; exact hne x), h1, h2, h3.grown hg (by have := h.le; omega) (by rintro _ ⟨⟩; exact hB), h4⟩, h.bytes, h.le, h.small⟩
theorem RF.set (h : RF n0 w0 w g B gF p e F) (i : Nat) (u : Value) : RF n0 w0 (w.setCell ⟨gF, i, none⟩ u) g B gF p e (F.setIfInBounds i u) :=
  ⟨h.r.other gset h.ne.symm h.hB, h.f.set_ i u, below_gs h.b gset h.hf h.hs, h.hg, h.hf, h.hB, h.h0⟩
theorem RF.as (h : RF n0 w0 w g B gF p e F) {F' : Array Value} (e' : F = F') : RF n0 w0 w g B gF p e F' := e' ▸ h
theorem RF.below (h : RF n0 w0 w g B gF p e F) (hb : Below w.heap.size w w') : RF n0 w0 w' g B gF p e F :=
  ⟨h.r.below hb, h.f.below hb h.f.lt, h.b.trans (hb.mono h.hs), h.hg, h.hf, h.hB, h.h0⟩
end
theorem RF.num {n0 : Nat} {w0 w : World} {g B gF : Nat} {p : List Int} {e : Int} {F : Array Value} (h : RF n0 w0 w g B gF p e F) :
    Calls Tryd.prog 19 #[.pointer (some ⟨g, 0, none⟩)] w fun r w' => r = .returned (.int .u64 (numN p e)) ∧ RF n0 w0 w' g B gF (numL p e) (numE p e) F :=
  (Number_any g B p e w h.r).mono fun r w' ⟨h1, h2, h3⟩ => ⟨h1, h.rdr h2 h3⟩
def F0 (k : Int) : Array Value := FC k 0 0 0 0 false none 0 0 none 0 0 none 0 0
set_option maxHeartbeats 1600000 in
theorem takeFields_4 (n0 : Nat) (w0 w : World) (g B gF : Nat) (p : List Int) (e : Int) (h : RF n0 w0 w g B gF p e (F0 4)) (p1 p2 p3 : List Int) (e1 e2 e3 N1 N2 N3 : Int)
    (h1 : numL p e = p1 ∧ numE p e = e1 ∧ numN p e = N1) (h2 : numL p1 e1 = p2 ∧ numE p1 e1 = e2 ∧ numN p1 e1 = N2) (h3 : numL p2 e2 = p3 ∧ numE p2 e2 = e3 ∧ numN p2 e2 = N3) :
    Calls Tryd.prog 27 #[.pointer (some ⟨g, 0, none⟩), .pointer (some ⟨gF, 0, none⟩), .int .u64 4] w fun r w' => r = .returned (.tuple #[]) ∧
      RF n0 w0 w' g B gF p3 e3 (FC 4 N1 N3 0 N2 false none 0 0 none 0 0 none 0 0) := by
  have C0 := fieldsOf_any 4
  rw [show foI 4 = 7 by decide, show knB 4 = true by decide] at C0
  have HC0 := Lib.hid C0
  have C1 := h.num
  rw [h1.1, h1.2.1, h1.2.2] at C1
  have HC1 := Lib.hid C1
  have X2 := Lib.hid h2
  have X3 := Lib.hid h3
  have c0 := h.f.cell 0
  simp [F0, FC] at c0
  clear C0 C1 h1 h2 h3 h
  go_enter Tryd.func27, Tryd.ntmps27
  go_wp2_with fail
  refine (HC0.out _).mono ?_
  rintro r w1 ⟨rfl, rfl⟩
  go_wp2_with fail
  refine HC1.out.mono ?_
  rintro r w1 ⟨rfl, s1⟩
  have q1 := s1.f.cell 1
  have f1 := s1.f.frozen 1
  have q0 := s1.f.cell 0
  simp [F0, FC] at q0 q1
  have T1 := (s1.set 1 (.int .u64 N1)).as (F' := FC 4 N1 0 0 0 false none 0 0 none 0 0 none 0 0) rfl
  have C2 := T1.num
  rw [X2.out.1, X2.out.2.1, X2.out.2.2] at C2
  have HC2 := Lib.hid C2
  clear c0 s1 T1 C2
  go_wp2_with fail
  refine HC2.out.mono ?_
  rintro r w2 ⟨rfl, s2⟩
  clear q0 q1 f1
  have q1 := s2.f.cell 4
  have f1 := s2.f.frozen 4
  have q0 := s2.f.cell 0
  simp [FC] at q0 q1
  have T2 := (s2.set 4 (.int .u64 N2)).as (F' := FC 4 N1 0 0 N2 false none 0 0 none 0 0 none 0 0) rfl
  have C3 := T2.num
  rw [X3.out.1, X3.out.2.1, X3.out.2.2] at C3
  have HC3 := Lib.hid C3
  clear s2 T2 C3
  go_wp2_with fail
  refine HC3.out.mono ?_
  rintro r w3 ⟨rfl, s3⟩
  clear q0 q1 f1
  have q1 := s3.f.cell 2
  have f1 := s3.f.frozen 2
  simp [FC] at q1
  have T3 := (s3.set 2 (.int .u64 N3)).as (F' := FC 4 N1 N3 0 N2 false none 0 0 none 0 0 none 0 0) rfl
  have HT3 := Lib.hid T3
  clear s3 T3
  go_wp2_with fail
  exact bodyPost_end (v := .tuple #[]) (results_none (by rfl) _ _ _) (by rfl) ⟨rfl, HT3.out⟩
theorem kindOf_4 (w : World) : Calls Tryd.prog 20 #[.int .u64 4] w fun r w' => r = .returned (.int .u64 4) ∧ w = w' := by
  go_enter Tryd.func20, Tryd.ntmps20
  go_wp2
  go_ret
  exact ⟨rfl, rfl⟩
end Go.Proofs.YtfimngmpkckcdaaDoor
