/-
  The parser of package scan: takes as the reader does, and panics with the error.
-/
import Derived.Test.YtpaglcojbcndoaaDoorScanC
import Derived.Test.YtpaglcojbcndoaaDoorOpenT
import Derived.Test.YtpaglcojbcndoaaDoorVintE
import Derived.WalkLawsBesides
namespace Go.Proofs.YtpaglcojbcndoaaDoor
open Go.RowKit
set_option linter.unusedVariables false
set_option linter.unusedSimpArgs false
/-- The parser at gp over the reader at g: what is left, the error for bytes that lack. -/
structure Prs (w : World) (gp g B : Nat) (p : List Int) (L : Int) : Prop where
  pb : Blk w gp 93 #[.pointer (some ⟨g, 0, none⟩), .int .i64 L]
  rd : Rdr w g B p 0
  le : B ≤ gp
/-- A panic with an error's number. -/
abbrev dies (x : Int) : Ending := .panicked [{ v := .iface 32 (.int .i64 x), recovered := false }]
section
variable {w w' : World} {gp g B : Nat} {p : List Int} {L : Int}
theorem Rdr.ne_p {cs : Array Value} {e : Int} (h : Rdr w g B p e) (hb : Blk w gp 93 cs) : gp ≠ g := by
  obtain ⟨A, c, k, _⟩ := h.blk
  exact hb.ne_ k (by decide)
theorem Prs.below (h : Prs w gp g B p L) (hb : Below w.heap.size w w') : Prs w' gp g B p L := ⟨h.pb.below hb h.pb.lt, h.rd.below hb, h.le⟩
theorem Prs.drew (h : Prs w gp g B p L) : Prs w.drew gp g B p L := ⟨h.pb.drew, h.rd.drew, h.le⟩
theorem Prs.to {q : List Int} (h : Prs w gp g B p L) (hr : Rdr w' g B q 0) (hg : w.grownBy w' (some g)) : Prs w' gp g B q L :=
  ⟨h.pb.grown hg (fun e => by injection e with e; exact h.rd.ne_p h.pb e), hr, h.le⟩
end
theorem check_ok (gp g B : Nat) (p : List Int) (L : Int) (w : World) (h : Prs w gp g B p L) :
    Calls Tryd.prog 48 #[.pointer (some ⟨gp, 0, none⟩)] w fun r w' => r = .returned (.tuple #[]) ∧ w = w' := by
  have c0 := h.pb.cell 0
  simp at c0
  have C := Lib.hid (Errno_any g B p 0 w h.rd)
  clear h
  go_enter Tryd.func48, Tryd.ntmps48
  go_wp2_with fail
  refine C.out.mono ?_
  rintro e w1 ⟨rfl, rfl⟩
  go_wp2_with fail
  exact bodyPost_end (v := .tuple #[]) (results_none (by rfl) _ _ _) (by rfl) ⟨rfl, rfl⟩
theorem check_no (gp g B : Nat) (p : List Int) (L x : Int) (w : World) (hp : Blk w gp 93 #[.pointer (some ⟨g, 0, none⟩), .int .i64 L]) (h : Rdr w g B p x) (hx : x ≠ 0) :
    Calls Tryd.prog 48 #[.pointer (some ⟨gp, 0, none⟩)] w fun r w' => r = dies (if x = 2 then L else x) ∧ w = w' := by
  have c0 := hp.cell 0
  have c1 := hp.cell 1
  simp at c0 c1
  have C := Lib.hid (Errno_any g B p x w h)
  have h0 : (x == 0) = false := by simpa using hx
  clear h hp
  by_cases h2 : x = 2
  · subst h2
    go_enter Tryd.func48, Tryd.ntmps48
    go_wp2_with fail
    refine C.out.mono ?_
    rintro e w1 ⟨rfl, rfl⟩
    go_wp2_with fail
    exact ⟨rfl, rfl, rfl⟩
  · have h3 : (x == 2) = false := by simpa using h2
    rw [if_neg h2]
    go_enter Tryd.func48, Tryd.ntmps48
    go_wp2_with fail
    refine C.out.mono ?_
    rintro e w1 ⟨rfl, rfl⟩
    go_wp2_with fail
    exact ⟨rfl, rfl, rfl⟩
end Go.Proofs.YtpaglcojbcndoaaDoor
