/-
  takeShort, takeLong, take.
-/
import Derived.Test.YtomapklkbfjafaaDoorHeadC
import Derived.Laws.ResultCell
namespace Go.Proofs.YtomapklkbfjafaaDoor
open Go.RowKit
set_option linter.unusedVariables false

set_option maxHeartbeats 400000 in
theorem equal_any (A B : Option Addr) (c d : Nat) (a b : List Int) (w : World) (ha : Rd w A a) (hb : Rd w B b) (h1 : Bytes a) (h2 : Bytes b) :
    Calls Tryd.prog 39 #[.slice A a.length c, .slice B b.length d] w fun e w' => e = .returned (.bool (sameB a b)) ∧ w = w' := by
  have q1 := run_str w A c ha
  have q2 := run_str w B d hb
  have q3 := str_beq h1 h2
  go_enter Tryd.func39, Tryd.ntmps39
  go_wp2
  go_ret
  refine ⟨?_, rfl⟩
  rw [← q3]
  rfl

theorem results_row_tmp {P : Program} {fn : Func} {p u : Tmp} {ty : TypeId} (h : fn.results = #[.cell p ty, .tmp u]) (tmps : Array Value) (w : World) (g : Nat) (t : TypeId) (cs : Array Value) (fr : Nat × Nat) (d : TypeDesc)
    (hp : tmps.getD p undef = .pointer (some ⟨g, 0, none⟩)) (hg : w.heap[g]? = some (.cells cs t fr))
    (hu : P.underlying ty = some d) (hd : (match d with | .struct _ | .array _ _ => true | _ => false) = true) (hi : (P.info? ty).map (·.size) = some cs.size) :
    (results fn tmps).run P w = .ok (.tuple #[.agg cs, tmps.getD u undef]) w := by
  rw [results_cell_tmp h, hp]
  simp only [asAddr, Sem.run_pure, Result.andThen_ok, run_loadVar_row w g t ty cs fr d hg hu hd hi]
theorem only_new {a w : World} {row : Option Nat} (h : a.grownBy w row) {p : Addr} (hp : a.heap.size ≤ p.block) (u : Value) : a.grownBy (w.setCell p u) row :=
  ⟨h.os, h.tape, h.output, by simpa [World.setCell] using h.size, fun i hi hne => (Below.heap_setCell w p u i (by rintro rfl; omega)).trans (h.block i hi hne)⟩
theorem Rdr.far {w : World} {g B : Nat} {p : List Int} {e : Int} (h : Rdr w g B p e) {q : Addr} (hq : g < q.block) (u : Value) : Rdr (w.setCell q u) g B p e := by
  obtain ⟨A, c, k, h1, h2, h3, h4⟩ := h.blk
  exact ⟨⟨A, c, k.far (by omega) u, h1, h2, h3.setCell (by have := h.le; omega) u, h4⟩, h.bytes, h.le, h.small⟩
/-- Five cells are set. -/
def set5 (w : World) (h : Nat) (a b c d e : Value) : World := ((((w.setCell ⟨h, 0, none⟩ a).setCell ⟨h, 1, none⟩ b).setCell ⟨h, 2, none⟩ c).setCell ⟨h, 3, none⟩ d).setCell ⟨h, 4, none⟩ e
theorem set5_blk {w : World} {h : Nat} {t : TypeId} {x0 x1 x2 x3 x4 : Value} (k : Blk w h t #[x0, x1, x2, x3, x4]) (a b c d e : Value) : Blk (set5 w h a b c d e) h t #[a, b, c, d, e] :=
  ((((k.set_ 0 a).set_ 1 b).set_ 2 c).set_ 3 d).set_ 4 e
theorem set5_only {u w : World} {row : Option Nat} (h : u.grownBy w row) {g : Nat} (hg : u.heap.size ≤ g) (a b c d e : Value) : u.grownBy (set5 w g a b c d e) row :=
  only_new (only_new (only_new (only_new (only_new h (p := ⟨g, 0, none⟩) hg a) (p := ⟨g, 1, none⟩) hg b) (p := ⟨g, 2, none⟩) hg c) (p := ⟨g, 3, none⟩) hg d) (p := ⟨g, 4, none⟩) hg e
theorem set5_rdr {w : World} {g B : Nat} {p : List Int} {er : Int} (h : Rdr w g B p er) {q : Nat} (hq : g < q) (a b c d e : Value) : Rdr (set5 w q a b c d e) g B p er :=
  ((((h.far (q := ⟨q, 0, none⟩) hq a).far (q := ⟨q, 1, none⟩) hq b).far (q := ⟨q, 2, none⟩) hq c).far (q := ⟨q, 3, none⟩) hq d).far (q := ⟨q, 4, none⟩) hq e
theorem set5_own {w : World} {base c' : Nat} {A : Option Addr} {l : List Int} (o : Own w base A c' l) {q : Nat} {t : TypeId} {cs : Array Value} (k : Blk w q t cs) (ht : 5 ≠ t) (a b c d e : Value) : Own (set5 w q a b c d e) base A c' l := by
  have g1 : w.grownBy (set5 w q a b c d e) (some q) :=
    only_set (only_set (only_set (only_set (only_set (only_refl w (some q)) (p := ⟨q, 0, none⟩) rfl a) (p := ⟨q, 1, none⟩) rfl b) (p := ⟨q, 2, none⟩) rfl c) (p := ⟨q, 3, none⟩) rfl d) (p := ⟨q, 4, none⟩) rfl e
  exact o.grown g1 (fun g cur k' e => by injection e with e; subst e; exact absurd rfl (k'.ne_ k ht))

def shL (p : List Int) (e : Int) : List Int := tkL p e 8
def shE (p : List Int) (e : Int) : Int := needE e p.length 8
def shN (p : List Int) (e : Int) : Nat := (leftV (shL p e) (shE p e)).length
theorem takeShort_any (g B : Nat) (p : List Int) (e : Int) (w : World) (h : Rdr w g B p e) :
    Calls Tryd.prog 32 #[.pointer (some ⟨g, 0, none⟩)] w fun r w' => ∃ A c, r = .returned (.tuple #[.agg #[.bool false, .int .i64 2, .bool false, .slice A (tkO p e 8).length c, .slice none 0 0], .int .i64 (shN p e)]) ∧
      Own w' w.heap.size A c (tkO p e 8) ∧ Rdr w' g B (shL p e) (shE p e) ∧ w.grownBy w' (some g) := by
  have CB := (fun W (hr : Rdr W g B p e) => RBytes_any g B p e 8 W hr (by omega))
  rw [show ((8 : Nat) : Int) = 8 from rfl] at CB
  obtain ⟨O, hO⟩ : ∃ O, O = tkO p e 8 := ⟨_, rfl⟩
  obtain ⟨L, hL⟩ : ∃ L, L = tkL p e 8 := ⟨_, rfl⟩
  obtain ⟨E, hE⟩ : ∃ E, E = needE e p.length 8 := ⟨_, rfl⟩
  obtain ⟨M, hM⟩ : ∃ M, M = leftV L E := ⟨_, rfl⟩
  have hN : shN p e = M.length := by rw [shN, shL, shE, hM, hL, hE]
  rw [show shL p e = L from hL.symm, show shE p e = E from hE.symm, hN]
  rw [← hO, ← hL, ← hE] at CB
  rw [← hO]
  have HM := Lib.hid hM
  have H := Lib.hid h
  have hlt := h.lt
  have CB := Lib.hid CB
  clear hO hL hE hM hN h
  go_enter Tryd.func32, Tryd.ntmps32
  go_wp2_with fail
  refine (CB.out _ (H.out.below ((Below.refl _ _).alloc (Nat.le_refl _) _))).mono ?_
  rintro r w1 ⟨A1, c1, rfl, o1, r1, g1⟩
  have CL := Lib.hid (Left_any g B L E w1 r1)
  rw [← HM.out] at CL
  have O1 := Lib.hid o1
  have R1 := Lib.hid r1
  have G1 := Lib.hid (only_then (only_below ((Below.refl _ _).alloc (Nat.le_refl _) _) (some g)) g1)
  have K1 := Lib.hid ((Blk.new w 24 #[.bool false, .int .i64 0, .bool false, .slice none 0 0, .slice none 0 0]).grown g1 (by intro h; injection h; omega))
  clear o1 r1 g1 CB
  go_wp2_with fail
  refine CL.out.mono ?_
  rintro r w2 ⟨A2, c2, rfl, s2, rfl⟩
  clear s2 CL
  have f0 := K1.out.frozen 0
  have f1 := K1.out.frozen 1
  have f2 := K1.out.frozen 2
  have f3 := K1.out.frozen 3
  have f4 := K1.out.frozen 4
  have c0 := K1.out.cell 0
  have c1 := K1.out.cell 1
  have c2 := K1.out.cell 2
  have c3 := K1.out.cell 3
  have c4 := K1.out.cell 4
  go_wp2_with fail
  show bodyPost _ _ _ _ _ (set5 w1 w.heap.size _ _ _ _ _)
  refine bodyPost_ret (results_row_tmp rfl _ _ w.heap.size 24 _ (0, 0) _ rfl (set5_blk K1.out _ _ _ _ _) Tryd.underlying24 rfl (by kernel_rfl)) rfl ?_
  exact ⟨_, _, rfl, set5_own (O1.out.base_le (by simp)) K1.out (by decide) _ _ _ _ _, set5_rdr R1.out hlt _ _ _ _ _, set5_only G1.out (Nat.le_refl _) _ _ _ _ _⟩
end Go.Proofs.YtomapklkbfjafaaDoor
