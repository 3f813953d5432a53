/-
  word.takeField, a theorem a field (written by wip/tools/mkWordC.py).
-/
import Derived.Test.YtfedofoadfipcaaDoorWordB
namespace Go.Proofs.YtfedofoadfipcaaDoor
open Go.RowKit
set_option linter.unusedVariables false
set_option linter.unusedSimpArgs false
theorem OwnV.lower {w : World} {base base' : Nat} {e : TypeId} {size n : Nat} {A : Option Addr} {c : Nat} {xs : List Value} (h : OwnV w base e size A c n xs) (hb : base' ≤ base) : OwnV w base' e size A c n xs := by
  obtain ⟨h1, h2⟩ := h
  rcases h2 with h2 | ⟨g, cap, cur, hv, hg, rest⟩
  · exact ⟨h1, .inl h2⟩
  · exact ⟨h1, .inr ⟨g, cap, cur, hv, by omega, rest⟩⟩
section
variable {gp g gm base B : Nat} {p q t8 : List Int} {n n2 : Int} {t : Bool} {m m' : MV} {w w' : World}
theorem MsgAt.lt (h : MsgAt w gm base m) : gm < w.heap.size := by
  obtain ⟨nA, nc, rA, rc, vA, vc, k, _⟩ := h.ex
  exact k.lt
theorem MsgAt.fz (h : MsgAt w gm base m) (i : Nat) : w.frozen? ⟨gm, i, none⟩ = false := by
  obtain ⟨nA, nc, rA, rc, vA, vc, k, _⟩ := h.ex
  exact k.frozen i
theorem MsgAt.kindC (h : MsgAt w gm base m) : w.cell? ⟨gm, 0, none⟩ = some (.int .u64 m.kind) := by
  obtain ⟨nA, nc, rA, rc, vA, vc, k, _⟩ := h.ex
  exact k.cell 0
theorem MsgAt.cells (h : MsgAt w gm base m) (i : Nat) (hi : i < 16) : ∃ v, w.cell? ⟨gm, i, none⟩ = some v := by
  obtain ⟨nA, nc, rA, rc, vA, vc, k, _⟩ := h.ex
  exact ⟨_, (k.cell i).trans (Array.getElem?_eq_getElem (by simpa [mvC] using hi))⟩
theorem MsgAt.below (h : MsgAt w gm base m) (hb : Below w.heap.size w w') : MsgAt w' gm base m := by
  obtain ⟨nA, nc, rA, rc, vA, vc, k, a, b, c⟩ := h.ex
  exact ⟨⟨nA, nc, rA, rc, vA, vc, k.below hb k.lt, OwnV.below a hb, OwnV.below b hb, OwnV.below c hb⟩, h.lo⟩
/-- Where the reader's block is written. -/
theorem MsgAt.reader (h : MsgAt w gm base m) {cs : Array Value} (hk : Blk w g 94 cs) (hg : w.grownBy w' (some g)) (hne : gm ≠ g) : MsgAt w' gm base m := by
  obtain ⟨nA, nc, rA, rc, vA, vc, k, a, b, c⟩ := h.ex
  refine ⟨⟨nA, nc, rA, rc, vA, vc, k.grown hg (fun e => by injection e with e; exact hne e), ?_, ?_, ?_⟩, h.lo⟩
  · exact OwnV.grown a hg (fun g' cur k' e => by injection e with e; subst e; exact k'.ne_ hk (by decide) rfl)
  · exact OwnV.grown b hg (fun g' cur k' e => by injection e with e; subst e; exact k'.ne_ hk (by decide) rfl)
  · exact OwnV.grown c hg (fun g' cur k' e => by injection e with e; subst e; exact k'.ne_ hk (by decide) rfl)
theorem MsgAt.put (h : MsgAt w gm base m) (i : Nat) (u : Value) (e : ∀ {nA nc rA rc vA vc}, (mvC m nA nc rA rc vA vc).setIfInBounds i u = mvC m' nA nc rA rc vA vc) (e1 : m'.name = m.name := by rfl) (e2 : m'.reason = m.reason := by rfl) (e3 : m'.vers = m.vers := by rfl) :
    MsgAt (w.setCell ⟨gm, i, none⟩ u) gm base m' := by
  obtain ⟨nA, nc, rA, rc, vA, vc, k, a, b, c⟩ := h.ex
  have hl := h.lo
  have gs := only_set (only_refl w (some gm)) (p := ⟨gm, i, none⟩) rfl u
  refine ⟨⟨nA, nc, rA, rc, vA, vc, ?_, ?_, ?_, ?_⟩, hl⟩
  · rw [← e]; exact k.set_ i u
  · rw [e1]; exact OwnV.apart a gs (fun k hk e => by injection e with e; have := OwnV.row_ge a k hk; omega)
  · rw [e2]; exact OwnV.apart b gs (fun k hk e => by injection e with e; have := OwnV.row_ge b k hk; omega)
  · rw [e3]; exact OwnV.apart c gs (fun k hk e => by injection e with e; have := OwnV.row_ge c k hk; omega)
theorem MsgAt.putName {A1 : Option Addr} {c1 : Nat} (h : MsgAt w gm base m) (ho : Own w base A1 c1 t8) : MsgAt (w.setCell ⟨gm, 3, none⟩ (.slice A1 t8.length c1)) gm base { m with name := t8 } := by
  obtain ⟨nA, nc, rA, rc, vA, vc, k, a, b, c⟩ := h.ex
  have hl := h.lo
  have gs := only_set (only_refl w (some gm)) (p := ⟨gm, 3, none⟩) rfl (.slice A1 t8.length c1)
  refine ⟨⟨A1, c1, rA, rc, vA, vc, k.set_ 3 _, ?_, ?_, ?_⟩, hl⟩
  · exact OwnV.apart ho gs (fun k hk e => by injection e with e; have := OwnV.row_ge ho k hk; omega)
  · exact OwnV.apart b gs (fun k hk e => by injection e with e; have := OwnV.row_ge b k hk; omega)
  · exact OwnV.apart c gs (fun k hk e => by injection e with e; have := OwnV.row_ge c k hk; omega)
theorem MsgAt.putReason {A1 : Option Addr} {c1 : Nat} (h : MsgAt w gm base m) (ho : Own w base A1 c1 t8) : MsgAt (w.setCell ⟨gm, 12, none⟩ (.slice A1 t8.length c1)) gm base { m with reason := t8 } := by
  obtain ⟨nA, nc, rA, rc, vA, vc, k, a, b, c⟩ := h.ex
  have hl := h.lo
  have gs := only_set (only_refl w (some gm)) (p := ⟨gm, 12, none⟩) rfl (.slice A1 t8.length c1)
  refine ⟨⟨nA, nc, A1, c1, vA, vc, k.set_ 12 _, ?_, ?_, ?_⟩, hl⟩
  · exact OwnV.apart a gs (fun k hk e => by injection e with e; have := OwnV.row_ge a k hk; omega)
  · exact OwnV.apart ho gs (fun k hk e => by injection e with e; have := OwnV.row_ge ho k hk; omega)
  · exact OwnV.apart c gs (fun k hk e => by injection e with e; have := OwnV.row_ge c k hk; omega)
theorem MsgAt.putVers {A1 : Option Addr} {c1 : Nat} (h : MsgAt w gm base m) (ho : OwnV w base 22 1 A1 c1 t8.length (IV .u64 t8)) : MsgAt (w.setCell ⟨gm, 15, none⟩ (.slice A1 t8.length c1)) gm base { m with vers := t8 } := by
  obtain ⟨nA, nc, rA, rc, vA, vc, k, a, b, c⟩ := h.ex
  have hl := h.lo
  have gs := only_set (only_refl w (some gm)) (p := ⟨gm, 15, none⟩) rfl (.slice A1 t8.length c1)
  refine ⟨⟨nA, nc, rA, rc, A1, c1, k.set_ 15 _, ?_, ?_, ?_⟩, hl⟩
  · exact OwnV.apart a gs (fun k hk e => by injection e with e; have := OwnV.row_ge a k hk; omega)
  · exact OwnV.apart b gs (fun k hk e => by injection e with e; have := OwnV.row_ge b k hk; omega)
  · exact OwnV.apart ho gs (fun k hk e => by injection e with e; have := OwnV.row_ge ho k hk; omega)
theorem Prs.set_ {L : Int} (h : Prs w gp g B p L) (h1 : gm ≠ g) (h2 : gm ≠ gp) (hB : B ≤ gm) (i : Nat) (u : Value) : Prs (w.setCell ⟨gm, i, none⟩ u) gp g B p L :=
  h.apart (only_set (only_refl w (some gm)) (p := ⟨gm, i, none⟩) rfl u) h1 h2 hB
theorem takeF0_ok (h : Prs w gp g B p 4) (hm : MsgAt w gm base m) (h1 : gm ≠ g) (h2 : gm ≠ gp) (hB : B ≤ gm) (hb : base ≤ w.heap.size) (hp : pnum p = some (n, q)) :
    Calls Tryd.prog 56 #[.pointer (some ⟨gp, 0, none⟩), .pointer (some ⟨gm, 0, none⟩), .int .u16 1] w fun r w' => r = .returned (.tuple #[]) ∧ Prs w' gp g B q 4 ∧ MsgAt w' gm base { m with id := n } ∧ Frm w w' (fun b => b = g ∨ b = gm) := by
  have C := Lib.hid (WNum_ok h hp)
  have HM := Lib.hid hm
  obtain ⟨sA, sc, sk, _⟩ := h.rd.blk
  have HK := Lib.hid sk
  clear sk
  clear h hm hp
  go_enter Tryd.func56, Tryd.ntmps56
  go_wp2_with fail
  refine C.out.mono ?_
  rintro e w1 ⟨rfl, hp1, g1⟩
  have M1 := HM.out.reader HK.out g1 h1
  have f1 := M1.cells 1 (by decide)
  have z1 := M1.fz 1
  have zz := M1.lt
  have P1 := Lib.hid hp1
  have G1 := Lib.hid g1
  have HM1 := Lib.hid M1
  obtain ⟨v1, f1⟩ := f1
  clear hp1 g1 M1
  go_wp2_with fail
  exact bodyPost_end (v := .tuple #[]) (results_none (by rfl) _ _ _) (by rfl) ⟨rfl, (P1.out.set_ h1 h2 hB 1 (.int .u64 n)), (HM1.out.put 1 (.int .u64 n) rfl), (((Frm.refl w _).grown G1.out (fun r hr => .inr (.inl (by injection hr with hr; exact hr.symm)))).set (p := ⟨gm, 1, none⟩) (.inr (.inr rfl)) (.int .u64 n))⟩

theorem takeF0_no (h : Prs w gp g B p 4) (hm : MsgAt w gm base m) (h1 : gm ≠ g) (h2 : gm ≠ gp) (hB : B ≤ gm) (hb : base ≤ w.heap.size) (hp : pnum p = none) :
    Calls Tryd.prog 56 #[.pointer (some ⟨gp, 0, none⟩), .pointer (some ⟨gm, 0, none⟩), .int .u16 1] w fun r w' => r = dies 4 ∧ w.grownBy w' (some g) := by
  have C := Lib.hid (WNum_no h hp)
  clear h hm
  go_enter Tryd.func56, Tryd.ntmps56
  go_wp2_with fail
  refine C.out.mono ?_
  rintro e w1 ⟨rfl, g1⟩
  exact ⟨rfl, rfl, g1⟩

theorem takeF1_ok (h : Prs w gp g B p 4) (hm : MsgAt w gm base m) (h1 : gm ≠ g) (h2 : gm ≠ gp) (hB : B ≤ gm) (hb : base ≤ w.heap.size) (hp : pnum p = some (n, q)) :
    Calls Tryd.prog 56 #[.pointer (some ⟨gp, 0, none⟩), .pointer (some ⟨gm, 0, none⟩), .int .u16 2] w fun r w' => r = .returned (.tuple #[]) ∧ Prs w' gp g B q 4 ∧ MsgAt w' gm base { m with alias_ := n } ∧ Frm w w' (fun b => b = g ∨ b = gm) := by
  have C := Lib.hid (WNum_ok h hp)
  have HM := Lib.hid hm
  obtain ⟨sA, sc, sk, _⟩ := h.rd.blk
  have HK := Lib.hid sk
  clear sk
  clear h hm hp
  go_enter Tryd.func56, Tryd.ntmps56
  go_wp2_with fail
  refine C.out.mono ?_
  rintro e w1 ⟨rfl, hp1, g1⟩
  have M1 := HM.out.reader HK.out g1 h1
  have f2 := M1.cells 2 (by decide)
  have z2 := M1.fz 2
  have zz := M1.lt
  have P1 := Lib.hid hp1
  have G1 := Lib.hid g1
  have HM1 := Lib.hid M1
  obtain ⟨v2, f2⟩ := f2
  clear hp1 g1 M1
  go_wp2_with fail
  exact bodyPost_end (v := .tuple #[]) (results_none (by rfl) _ _ _) (by rfl) ⟨rfl, (P1.out.set_ h1 h2 hB 2 (.int .u64 n)), (HM1.out.put 2 (.int .u64 n) rfl), (((Frm.refl w _).grown G1.out (fun r hr => .inr (.inl (by injection hr with hr; exact hr.symm)))).set (p := ⟨gm, 2, none⟩) (.inr (.inr rfl)) (.int .u64 n))⟩

theorem takeF1_no (h : Prs w gp g B p 4) (hm : MsgAt w gm base m) (h1 : gm ≠ g) (h2 : gm ≠ gp) (hB : B ≤ gm) (hb : base ≤ w.heap.size) (hp : pnum p = none) :
    Calls Tryd.prog 56 #[.pointer (some ⟨gp, 0, none⟩), .pointer (some ⟨gm, 0, none⟩), .int .u16 2] w fun r w' => r = dies 4 ∧ w.grownBy w' (some g) := by
  have C := Lib.hid (WNum_no h hp)
  clear h hm
  go_enter Tryd.func56, Tryd.ntmps56
  go_wp2_with fail
  refine C.out.mono ?_
  rintro e w1 ⟨rfl, g1⟩
  exact ⟨rfl, rfl, g1⟩

theorem takeF8_ok (h : Prs w gp g B p 4) (hm : MsgAt w gm base m) (h1 : gm ≠ g) (h2 : gm ≠ gp) (hB : B ≤ gm) (hb : base ≤ w.heap.size) (hp : pnum p = some (n, q)) :
    Calls Tryd.prog 56 #[.pointer (some ⟨gp, 0, none⟩), .pointer (some ⟨gm, 0, none⟩), .int .u16 256] w fun r w' => r = .returned (.tuple #[]) ∧ Prs w' gp g B q 4 ∧ MsgAt w' gm base { m with code := n } ∧ Frm w w' (fun b => b = g ∨ b = gm) := by
  have C := Lib.hid (WNum_ok h hp)
  have HM := Lib.hid hm
  obtain ⟨sA, sc, sk, _⟩ := h.rd.blk
  have HK := Lib.hid sk
  clear sk
  clear h hm hp
  go_enter Tryd.func56, Tryd.ntmps56
  go_wp2_with fail
  refine C.out.mono ?_
  rintro e w1 ⟨rfl, hp1, g1⟩
  have M1 := HM.out.reader HK.out g1 h1
  have f11 := M1.cells 11 (by decide)
  have z11 := M1.fz 11
  have zz := M1.lt
  have P1 := Lib.hid hp1
  have G1 := Lib.hid g1
  have HM1 := Lib.hid M1
  obtain ⟨v11, f11⟩ := f11
  clear hp1 g1 M1
  go_wp2_with fail
  exact bodyPost_end (v := .tuple #[]) (results_none (by rfl) _ _ _) (by rfl) ⟨rfl, (P1.out.set_ h1 h2 hB 11 (.int .u64 n)), (HM1.out.put 11 (.int .u64 n) rfl), (((Frm.refl w _).grown G1.out (fun r hr => .inr (.inl (by injection hr with hr; exact hr.symm)))).set (p := ⟨gm, 11, none⟩) (.inr (.inr rfl)) (.int .u64 n))⟩

theorem takeF8_no (h : Prs w gp g B p 4) (hm : MsgAt w gm base m) (h1 : gm ≠ g) (h2 : gm ≠ gp) (hB : B ≤ gm) (hb : base ≤ w.heap.size) (hp : pnum p = none) :
    Calls Tryd.prog 56 #[.pointer (some ⟨gp, 0, none⟩), .pointer (some ⟨gm, 0, none⟩), .int .u16 256] w fun r w' => r = dies 4 ∧ w.grownBy w' (some g) := by
  have C := Lib.hid (WNum_no h hp)
  clear h hm
  go_enter Tryd.func56, Tryd.ntmps56
  go_wp2_with fail
  refine C.out.mono ?_
  rintro e w1 ⟨rfl, g1⟩
  exact ⟨rfl, rfl, g1⟩

theorem takeF11_ok (h : Prs w gp g B p 4) (hm : MsgAt w gm base m) (h1 : gm ≠ g) (h2 : gm ≠ gp) (hB : B ≤ gm) (hb : base ≤ w.heap.size) (hp : pnum p = some (n, q)) :
    Calls Tryd.prog 56 #[.pointer (some ⟨gp, 0, none⟩), .pointer (some ⟨gm, 0, none⟩), .int .u16 2048] w fun r w' => r = .returned (.tuple #[]) ∧ Prs w' gp g B q 4 ∧ MsgAt w' gm base { m with ver := n } ∧ Frm w w' (fun b => b = g ∨ b = gm) := by
  have C := Lib.hid (WNum_ok h hp)
  have HM := Lib.hid hm
  obtain ⟨sA, sc, sk, _⟩ := h.rd.blk
  have HK := Lib.hid sk
  clear sk
  clear h hm hp
  go_enter Tryd.func56, Tryd.ntmps56
  go_wp2_with fail
  refine C.out.mono ?_
  rintro e w1 ⟨rfl, hp1, g1⟩
  have M1 := HM.out.reader HK.out g1 h1
  have f14 := M1.cells 14 (by decide)
  have z14 := M1.fz 14
  have zz := M1.lt
  have P1 := Lib.hid hp1
  have G1 := Lib.hid g1
  have HM1 := Lib.hid M1
  obtain ⟨v14, f14⟩ := f14
  clear hp1 g1 M1
  go_wp2_with fail
  exact bodyPost_end (v := .tuple #[]) (results_none (by rfl) _ _ _) (by rfl) ⟨rfl, (P1.out.set_ h1 h2 hB 14 (.int .u64 n)), (HM1.out.put 14 (.int .u64 n) rfl), (((Frm.refl w _).grown G1.out (fun r hr => .inr (.inl (by injection hr with hr; exact hr.symm)))).set (p := ⟨gm, 14, none⟩) (.inr (.inr rfl)) (.int .u64 n))⟩

theorem takeF11_no (h : Prs w gp g B p 4) (hm : MsgAt w gm base m) (h1 : gm ≠ g) (h2 : gm ≠ gp) (hB : B ≤ gm) (hb : base ≤ w.heap.size) (hp : pnum p = none) :
    Calls Tryd.prog 56 #[.pointer (some ⟨gp, 0, none⟩), .pointer (some ⟨gm, 0, none⟩), .int .u16 2048] w fun r w' => r = dies 4 ∧ w.grownBy w' (some g) := by
  have C := Lib.hid (WNum_no h hp)
  clear h hm
  go_enter Tryd.func56, Tryd.ntmps56
  go_wp2_with fail
  refine C.out.mono ?_
  rintro e w1 ⟨rfl, g1⟩
  exact ⟨rfl, rfl, g1⟩

theorem takeF12_ok (h : Prs w gp g B p 4) (hm : MsgAt w gm base m) (h1 : gm ≠ g) (h2 : gm ≠ gp) (hB : B ≤ gm) (hb : base ≤ w.heap.size) (hp : pnum p = some (n, q)) :
    Calls Tryd.prog 56 #[.pointer (some ⟨gp, 0, none⟩), .pointer (some ⟨gm, 0, none⟩), .int .u16 4096] w fun r w' => r = .returned (.tuple #[]) ∧ Prs w' gp g B q 4 ∧ MsgAt w' gm base { m with n := n } ∧ Frm w w' (fun b => b = g ∨ b = gm) := by
  have C := Lib.hid (WNum_ok h hp)
  have HM := Lib.hid hm
  obtain ⟨sA, sc, sk, _⟩ := h.rd.blk
  have HK := Lib.hid sk
  clear sk
  clear h hm hp
  go_enter Tryd.func56, Tryd.ntmps56
  go_wp2_with fail
  refine C.out.mono ?_
  rintro e w1 ⟨rfl, hp1, g1⟩
  have M1 := HM.out.reader HK.out g1 h1
  have f13 := M1.cells 13 (by decide)
  have z13 := M1.fz 13
  have zz := M1.lt
  have P1 := Lib.hid hp1
  have G1 := Lib.hid g1
  have HM1 := Lib.hid M1
  obtain ⟨v13, f13⟩ := f13
  clear hp1 g1 M1
  go_wp2_with fail
  exact bodyPost_end (v := .tuple #[]) (results_none (by rfl) _ _ _) (by rfl) ⟨rfl, (P1.out.set_ h1 h2 hB 13 (.int .u64 n)), (HM1.out.put 13 (.int .u64 n) rfl), (((Frm.refl w _).grown G1.out (fun r hr => .inr (.inl (by injection hr with hr; exact hr.symm)))).set (p := ⟨gm, 13, none⟩) (.inr (.inr rfl)) (.int .u64 n))⟩

theorem takeF12_no (h : Prs w gp g B p 4) (hm : MsgAt w gm base m) (h1 : gm ≠ g) (h2 : gm ≠ gp) (hB : B ≤ gm) (hb : base ≤ w.heap.size) (hp : pnum p = none) :
    Calls Tryd.prog 56 #[.pointer (some ⟨gp, 0, none⟩), .pointer (some ⟨gm, 0, none⟩), .int .u16 4096] w fun r w' => r = dies 4 ∧ w.grownBy w' (some g) := by
  have C := Lib.hid (WNum_no h hp)
  clear h hm
  go_enter Tryd.func56, Tryd.ntmps56
  go_wp2_with fail
  refine C.out.mono ?_
  rintro e w1 ⟨rfl, g1⟩
  exact ⟨rfl, rfl, g1⟩

theorem takeF3_ok (h : Prs w gp g B (n :: q) 4) (hm : MsgAt w gm base m) (h1 : gm ≠ g) (h2 : gm ≠ gp) (hB : B ≤ gm) (hb : base ≤ w.heap.size)  :
    Calls Tryd.prog 56 #[.pointer (some ⟨gp, 0, none⟩), .pointer (some ⟨gm, 0, none⟩), .int .u16 8] w fun r w' => r = .returned (.tuple #[]) ∧ Prs w' gp g B q 4 ∧ MsgAt w' gm base { m with prio := n } ∧ Frm w w' (fun b => b = g ∨ b = gm) := by
  have C := Lib.hid (PByte_ok (x := n) (r := q) h)
  have HM := Lib.hid hm
  obtain ⟨sA, sc, sk, _⟩ := h.rd.blk
  have HK := Lib.hid sk
  clear sk
  clear h hm
  go_enter Tryd.func56, Tryd.ntmps56
  go_wp2_with fail
  refine C.out.mono ?_
  rintro e w1 ⟨rfl, hp1, g1⟩
  have M1 := HM.out.reader HK.out g1 h1
  have f4 := M1.cells 4 (by decide)
  have z4 := M1.fz 4
  have zz := M1.lt
  have P1 := Lib.hid hp1
  have G1 := Lib.hid g1
  have HM1 := Lib.hid M1
  obtain ⟨v4, f4⟩ := f4
  clear hp1 g1 M1
  go_wp2_with fail
  exact bodyPost_end (v := .tuple #[]) (results_none (by rfl) _ _ _) (by rfl) ⟨rfl, (P1.out.set_ h1 h2 hB 4 (.int .u8 n)), (HM1.out.put 4 (.int .u8 n) rfl), (((Frm.refl w _).grown G1.out (fun r hr => .inr (.inl (by injection hr with hr; exact hr.symm)))).set (p := ⟨gm, 4, none⟩) (.inr (.inr rfl)) (.int .u8 n))⟩

theorem takeF3_no (h : Prs w gp g B [] 4) (hm : MsgAt w gm base m) (h1 : gm ≠ g) (h2 : gm ≠ gp) (hB : B ≤ gm) (hb : base ≤ w.heap.size)  :
    Calls Tryd.prog 56 #[.pointer (some ⟨gp, 0, none⟩), .pointer (some ⟨gm, 0, none⟩), .int .u16 8] w fun r w' => r = dies 4 ∧ w.grownBy w' (some g) := by
  have C := Lib.hid (PByte_no h)
  clear h hm
  go_enter Tryd.func56, Tryd.ntmps56
  go_wp2_with fail
  refine C.out.mono ?_
  rintro e w1 ⟨rfl, g1⟩
  exact ⟨rfl, rfl, g1⟩

theorem takeF4_ok (h : Prs w gp g B (n :: q) 4) (hm : MsgAt w gm base m) (h1 : gm ≠ g) (h2 : gm ≠ gp) (hB : B ≤ gm) (hb : base ≤ w.heap.size)  :
    Calls Tryd.prog 56 #[.pointer (some ⟨gp, 0, none⟩), .pointer (some ⟨gm, 0, none⟩), .int .u16 16] w fun r w' => r = .returned (.tuple #[]) ∧ Prs w' gp g B q 4 ∧ MsgAt w' gm base { m with ord := n } ∧ Frm w w' (fun b => b = g ∨ b = gm) := by
  have C := Lib.hid (PByte_ok (x := n) (r := q) h)
  have HM := Lib.hid hm
  obtain ⟨sA, sc, sk, _⟩ := h.rd.blk
  have HK := Lib.hid sk
  clear sk
  clear h hm
  go_enter Tryd.func56, Tryd.ntmps56
  go_wp2_with fail
  refine C.out.mono ?_
  rintro e w1 ⟨rfl, hp1, g1⟩
  have M1 := HM.out.reader HK.out g1 h1
  have f5 := M1.cells 5 (by decide)
  have z5 := M1.fz 5
  have zz := M1.lt
  have P1 := Lib.hid hp1
  have G1 := Lib.hid g1
  have HM1 := Lib.hid M1
  obtain ⟨v5, f5⟩ := f5
  clear hp1 g1 M1
  go_wp2_with fail
  exact bodyPost_end (v := .tuple #[]) (results_none (by rfl) _ _ _) (by rfl) ⟨rfl, (P1.out.set_ h1 h2 hB 5 (.int .u8 n)), (HM1.out.put 5 (.int .u8 n) rfl), (((Frm.refl w _).grown G1.out (fun r hr => .inr (.inl (by injection hr with hr; exact hr.symm)))).set (p := ⟨gm, 5, none⟩) (.inr (.inr rfl)) (.int .u8 n))⟩

theorem takeF4_no (h : Prs w gp g B [] 4) (hm : MsgAt w gm base m) (h1 : gm ≠ g) (h2 : gm ≠ gp) (hB : B ≤ gm) (hb : base ≤ w.heap.size)  :
    Calls Tryd.prog 56 #[.pointer (some ⟨gp, 0, none⟩), .pointer (some ⟨gm, 0, none⟩), .int .u16 16] w fun r w' => r = dies 4 ∧ w.grownBy w' (some g) := by
  have C := Lib.hid (PByte_no h)
  clear h hm
  go_enter Tryd.func56, Tryd.ntmps56
  go_wp2_with fail
  refine C.out.mono ?_
  rintro e w1 ⟨rfl, g1⟩
  exact ⟨rfl, rfl, g1⟩

theorem takeF5_ok (h : Prs w gp g B p 4) (hm : MsgAt w gm base m) (h1 : gm ≠ g) (h2 : gm ≠ gp) (hB : B ≤ gm) (hb : base ≤ w.heap.size) (hp : pbit p = some (t, q)) :
    Calls Tryd.prog 56 #[.pointer (some ⟨gp, 0, none⟩), .pointer (some ⟨gm, 0, none⟩), .int .u16 32] w fun r w' => r = .returned (.tuple #[]) ∧ Prs w' gp g B q 4 ∧ MsgAt w' gm base { m with some_ := t } ∧ Frm w w' (fun b => b = g ∨ b = gm) := by
  have C := Lib.hid (takeBit_ok h hp)
  have HM := Lib.hid hm
  obtain ⟨sA, sc, sk, _⟩ := h.rd.blk
  have HK := Lib.hid sk
  clear sk
  clear h hm hp
  go_enter Tryd.func56, Tryd.ntmps56
  go_wp2_with fail
  refine C.out.mono ?_
  rintro e w1 ⟨rfl, hp1, g1⟩
  have M1 := HM.out.reader HK.out g1 h1
  have f10 := M1.cells 10 (by decide)
  have z10 := M1.fz 10
  have zz := M1.lt
  have P1 := Lib.hid hp1
  have G1 := Lib.hid g1
  have HM1 := Lib.hid M1
  obtain ⟨v10, f10⟩ := f10
  clear hp1 g1 M1
  go_wp2_with fail
  exact bodyPost_end (v := .tuple #[]) (results_none (by rfl) _ _ _) (by rfl) ⟨rfl, (P1.out.set_ h1 h2 hB 10 (.bool t)), (HM1.out.put 10 (.bool t) rfl), (((Frm.refl w _).grown G1.out (fun r hr => .inr (.inl (by injection hr with hr; exact hr.symm)))).set (p := ⟨gm, 10, none⟩) (.inr (.inr rfl)) (.bool t))⟩

theorem takeF5_no (h : Prs w gp g B p 4) (hm : MsgAt w gm base m) (h1 : gm ≠ g) (h2 : gm ≠ gp) (hB : B ≤ gm) (hb : base ≤ w.heap.size) (hp : pbit p = none) :
    Calls Tryd.prog 56 #[.pointer (some ⟨gp, 0, none⟩), .pointer (some ⟨gm, 0, none⟩), .int .u16 32] w fun r w' => r = dies 4 ∧ w.grownBy w' (some g) := by
  have C := Lib.hid (takeBit_no h hp)
  clear h hm
  go_enter Tryd.func56, Tryd.ntmps56
  go_wp2_with fail
  refine C.out.mono ?_
  rintro e w1 ⟨rfl, g1⟩
  exact ⟨rfl, rfl, g1⟩

theorem takeF6_ok (h : Prs w gp g B p 4) (hm : MsgAt w gm base m) (h1 : gm ≠ g) (h2 : gm ≠ gp) (hB : B ≤ gm) (hb : base ≤ w.heap.size) (hp : pplace p = some ((n, n2), q)) :
    Calls Tryd.prog 56 #[.pointer (some ⟨gp, 0, none⟩), .pointer (some ⟨gm, 0, none⟩), .int .u16 64] w fun r w' => r = .returned (.tuple #[]) ∧ Prs w' gp g B q 4 ∧ MsgAt w' gm base { m with sg := n, so := n2 } ∧ Frm w w' (fun b => b = g ∨ b = gm) := by
  have C := Lib.hid (takePlace_ok h hp)
  have HM := Lib.hid hm
  obtain ⟨sA, sc, sk, _⟩ := h.rd.blk
  have HK := Lib.hid sk
  clear sk
  clear h hm hp
  go_enter Tryd.func56, Tryd.ntmps56
  go_wp2_with fail
  refine C.out.mono ?_
  rintro e w1 ⟨rfl, hp1, g1⟩
  have M1 := HM.out.reader HK.out g1 h1
  have f6 := M1.cells 6 (by decide)
  have z6 := M1.fz 6
  have f7 := M1.cells 7 (by decide)
  have z7 := M1.fz 7
  have zz := M1.lt
  have P1 := Lib.hid hp1
  have G1 := Lib.hid g1
  have HM1 := Lib.hid M1
  obtain ⟨v6, f6⟩ := f6
  obtain ⟨v7, f7⟩ := f7
  clear hp1 g1 M1
  go_wp2_with fail
  exact bodyPost_end (v := .tuple #[]) (results_none (by rfl) _ _ _) (by rfl) ⟨rfl, ((P1.out.set_ h1 h2 hB 6 (.int .u64 n)).set_ h1 h2 hB 7 (.int .u64 n2)), ((HM1.out.put (m' := { m with sg := n }) 6 (.int .u64 n) rfl).put 7 (.int .u64 n2) rfl), ((((Frm.refl w _).grown G1.out (fun r hr => .inr (.inl (by injection hr with hr; exact hr.symm)))).set (p := ⟨gm, 6, none⟩) (.inr (.inr rfl)) (.int .u64 n)).set (p := ⟨gm, 7, none⟩) (.inr (.inr rfl)) (.int .u64 n2))⟩

theorem takeF6_no (h : Prs w gp g B p 4) (hm : MsgAt w gm base m) (h1 : gm ≠ g) (h2 : gm ≠ gp) (hB : B ≤ gm) (hb : base ≤ w.heap.size) (hp : pplace p = none) :
    Calls Tryd.prog 56 #[.pointer (some ⟨gp, 0, none⟩), .pointer (some ⟨gm, 0, none⟩), .int .u16 64] w fun r w' => r = dies 4 ∧ w.grownBy w' (some g) := by
  have C := Lib.hid (takePlace_no h hp)
  clear h hm
  go_enter Tryd.func56, Tryd.ntmps56
  go_wp2_with fail
  refine C.out.mono ?_
  rintro e w1 ⟨rfl, g1⟩
  exact ⟨rfl, rfl, g1⟩

theorem takeF7s_ok (h : Prs w gp g B p 4) (hm : MsgAt w gm base m) (h1 : gm ≠ g) (h2 : gm ≠ gp) (hB : B ≤ gm) (hb : base ≤ w.heap.size) (hp : pnum p = some (n, q)) (hk : m.kind = 3) :
    Calls Tryd.prog 56 #[.pointer (some ⟨gp, 0, none⟩), .pointer (some ⟨gm, 0, none⟩), .int .u16 128] w fun r w' => r = .returned (.tuple #[]) ∧ Prs w' gp g B q 4 ∧ MsgAt w' gm base { m with eg := n } ∧ Frm w w' (fun b => b = g ∨ b = gm) := by
  have C := Lib.hid (WNum_ok h hp)
  have HM := Lib.hid hm
  obtain ⟨sA, sc, sk, _⟩ := h.rd.blk
  have HK := Lib.hid sk
  clear sk
  have kc := hm.kindC
  have kz := hm.lt
  clear h hm hp
  go_enter Tryd.func56, Tryd.ntmps56
  go_wp2_with fail
  refine C.out.mono ?_
  rintro e w1 ⟨rfl, hp1, g1⟩
  have M1 := HM.out.reader HK.out g1 h1
  have f8 := M1.cells 8 (by decide)
  have z8 := M1.fz 8
  have zz := M1.lt
  have P1 := Lib.hid hp1
  have G1 := Lib.hid g1
  have HM1 := Lib.hid M1
  obtain ⟨v8, f8⟩ := f8
  clear hp1 g1 M1
  clear kc kz
  go_wp2_with fail
  exact bodyPost_end (v := .tuple #[]) (results_none (by rfl) _ _ _) (by rfl) ⟨rfl, (P1.out.set_ h1 h2 hB 8 (.int .u64 n)), (HM1.out.put 8 (.int .u64 n) rfl), (((Frm.refl w _).grown G1.out (fun r hr => .inr (.inl (by injection hr with hr; exact hr.symm)))).set (p := ⟨gm, 8, none⟩) (.inr (.inr rfl)) (.int .u64 n))⟩

theorem takeF7s_no (h : Prs w gp g B p 4) (hm : MsgAt w gm base m) (h1 : gm ≠ g) (h2 : gm ≠ gp) (hB : B ≤ gm) (hb : base ≤ w.heap.size) (hp : pnum p = none) (hk : m.kind = 3) :
    Calls Tryd.prog 56 #[.pointer (some ⟨gp, 0, none⟩), .pointer (some ⟨gm, 0, none⟩), .int .u16 128] w fun r w' => r = dies 4 ∧ w.grownBy w' (some g) := by
  have C := Lib.hid (WNum_no h hp)
  have kc := hm.kindC
  have kz := hm.lt
  clear h hm
  go_enter Tryd.func56, Tryd.ntmps56
  go_wp2_with fail
  refine C.out.mono ?_
  rintro e w1 ⟨rfl, g1⟩
  exact ⟨rfl, rfl, g1⟩

theorem takeF7_ok (h : Prs w gp g B p 4) (hm : MsgAt w gm base m) (h1 : gm ≠ g) (h2 : gm ≠ gp) (hB : B ≤ gm) (hb : base ≤ w.heap.size) (hp : pplace p = some ((n, n2), q)) (hk : (m.kind == 3) = false) :
    Calls Tryd.prog 56 #[.pointer (some ⟨gp, 0, none⟩), .pointer (some ⟨gm, 0, none⟩), .int .u16 128] w fun r w' => r = .returned (.tuple #[]) ∧ Prs w' gp g B q 4 ∧ MsgAt w' gm base { m with eg := n, eo := n2 } ∧ Frm w w' (fun b => b = g ∨ b = gm) := by
  have C := Lib.hid (takePlace_ok h hp)
  have HM := Lib.hid hm
  obtain ⟨sA, sc, sk, _⟩ := h.rd.blk
  have HK := Lib.hid sk
  clear sk
  have kc := hm.kindC
  have kz := hm.lt
  clear h hm hp
  go_enter Tryd.func56, Tryd.ntmps56
  go_wp2_with fail
  refine C.out.mono ?_
  rintro e w1 ⟨rfl, hp1, g1⟩
  have M1 := HM.out.reader HK.out g1 h1
  have f8 := M1.cells 8 (by decide)
  have z8 := M1.fz 8
  have f9 := M1.cells 9 (by decide)
  have z9 := M1.fz 9
  have zz := M1.lt
  have P1 := Lib.hid hp1
  have G1 := Lib.hid g1
  have HM1 := Lib.hid M1
  obtain ⟨v8, f8⟩ := f8
  obtain ⟨v9, f9⟩ := f9
  clear hp1 g1 M1
  clear kc kz
  go_wp2_with fail
  exact bodyPost_end (v := .tuple #[]) (results_none (by rfl) _ _ _) (by rfl) ⟨rfl, ((P1.out.set_ h1 h2 hB 8 (.int .u64 n)).set_ h1 h2 hB 9 (.int .u64 n2)), ((HM1.out.put (m' := { m with eg := n }) 8 (.int .u64 n) rfl).put 9 (.int .u64 n2) rfl), ((((Frm.refl w _).grown G1.out (fun r hr => .inr (.inl (by injection hr with hr; exact hr.symm)))).set (p := ⟨gm, 8, none⟩) (.inr (.inr rfl)) (.int .u64 n)).set (p := ⟨gm, 9, none⟩) (.inr (.inr rfl)) (.int .u64 n2))⟩

theorem takeF7_no (h : Prs w gp g B p 4) (hm : MsgAt w gm base m) (h1 : gm ≠ g) (h2 : gm ≠ gp) (hB : B ≤ gm) (hb : base ≤ w.heap.size) (hp : pplace p = none) (hk : (m.kind == 3) = false) :
    Calls Tryd.prog 56 #[.pointer (some ⟨gp, 0, none⟩), .pointer (some ⟨gm, 0, none⟩), .int .u16 128] w fun r w' => r = dies 4 ∧ w.grownBy w' (some g) := by
  have C := Lib.hid (takePlace_no h hp)
  have kc := hm.kindC
  have kz := hm.lt
  clear h hm
  go_enter Tryd.func56, Tryd.ntmps56
  go_wp2_with fail
  refine C.out.mono ?_
  rintro e w1 ⟨rfl, g1⟩
  exact ⟨rfl, rfl, g1⟩

theorem takeF2_ok (h : Prs w gp g B p 4) (hm : MsgAt w gm base m) (h1 : gm ≠ g) (h2 : gm ≠ gp) (hB : B ≤ gm) (hb : base ≤ w.heap.size) (hp : ptext 32 p = some (t8, q)) :
    Calls Tryd.prog 56 #[.pointer (some ⟨gp, 0, none⟩), .pointer (some ⟨gm, 0, none⟩), .int .u16 4] w fun r w' => r = .returned (.tuple #[]) ∧ Prs w' gp g B q 4 ∧ MsgAt w' gm base { m with name := t8 } ∧ Frm w w' (fun b => b = g ∨ b = gm) := by
  have C := Lib.hid (WText_ok (m := 32) h hp)
  have HM := Lib.hid hm
  obtain ⟨sA, sc, sk, _⟩ := h.rd.blk
  have HK := Lib.hid sk
  clear sk
  clear h hm hp
  go_enter Tryd.func56, Tryd.ntmps56
  go_wp2_with fail
  refine C.out.mono ?_
  rintro e w1 ⟨A1, c1, B1, rfl, hB1, ho1, hp1, g1⟩
  have M1 := HM.out.reader HK.out g1 h1
  have f3 := M1.cells 3 (by decide)
  have z3 := M1.fz 3
  have zz := M1.lt
  have P1 := Lib.hid hp1
  have G1 := Lib.hid g1
  have HM1 := Lib.hid M1
  have O1 := Lib.hid ho1
  have HB1 := hB1
  obtain ⟨v3, f3⟩ := f3
  clear hp1 g1 M1 ho1
  go_wp2_with fail
  exact bodyPost_end (v := .tuple #[]) (results_none (by rfl) _ _ _) (by rfl) ⟨rfl, (P1.out.set_ h1 h2 hB 3 (.slice A1 t8.length c1)), (HM1.out.putName (OwnV.lower O1.out (Nat.le_trans hb HB1))), (((Frm.refl w _).grown G1.out (fun r hr => .inr (.inl (by injection hr with hr; exact hr.symm)))).set (p := ⟨gm, 3, none⟩) (.inr (.inr rfl)) (.slice A1 t8.length c1))⟩

theorem takeF2_no (h : Prs w gp g B p 4) (hm : MsgAt w gm base m) (h1 : gm ≠ g) (h2 : gm ≠ gp) (hB : B ≤ gm) (hb : base ≤ w.heap.size) (hp : ptext 32 p = none) :
    Calls Tryd.prog 56 #[.pointer (some ⟨gp, 0, none⟩), .pointer (some ⟨gm, 0, none⟩), .int .u16 4] w fun r w' => r = dies 4 ∧ w.grownBy w' (some g) := by
  have C := Lib.hid (WText_no (m := 32) (by decide) h hp)
  clear h hm
  go_enter Tryd.func56, Tryd.ntmps56
  go_wp2_with fail
  refine C.out.mono ?_
  rintro e w1 ⟨rfl, g1⟩
  exact ⟨rfl, rfl, g1⟩

theorem takeF9_ok (h : Prs w gp g B p 4) (hm : MsgAt w gm base m) (h1 : gm ≠ g) (h2 : gm ≠ gp) (hB : B ≤ gm) (hb : base ≤ w.heap.size) (hp : ptext 64 p = some (t8, q)) :
    Calls Tryd.prog 56 #[.pointer (some ⟨gp, 0, none⟩), .pointer (some ⟨gm, 0, none⟩), .int .u16 512] w fun r w' => r = .returned (.tuple #[]) ∧ Prs w' gp g B q 4 ∧ MsgAt w' gm base { m with reason := t8 } ∧ Frm w w' (fun b => b = g ∨ b = gm) := by
  have C := Lib.hid (WText_ok (m := 64) h hp)
  have HM := Lib.hid hm
  obtain ⟨sA, sc, sk, _⟩ := h.rd.blk
  have HK := Lib.hid sk
  clear sk
  clear h hm hp
  go_enter Tryd.func56, Tryd.ntmps56
  go_wp2_with fail
  refine C.out.mono ?_
  rintro e w1 ⟨A1, c1, B1, rfl, hB1, ho1, hp1, g1⟩
  have M1 := HM.out.reader HK.out g1 h1
  have f12 := M1.cells 12 (by decide)
  have z12 := M1.fz 12
  have zz := M1.lt
  have P1 := Lib.hid hp1
  have G1 := Lib.hid g1
  have HM1 := Lib.hid M1
  have O1 := Lib.hid ho1
  have HB1 := hB1
  obtain ⟨v12, f12⟩ := f12
  clear hp1 g1 M1 ho1
  go_wp2_with fail
  exact bodyPost_end (v := .tuple #[]) (results_none (by rfl) _ _ _) (by rfl) ⟨rfl, (P1.out.set_ h1 h2 hB 12 (.slice A1 t8.length c1)), (HM1.out.putReason (OwnV.lower O1.out (Nat.le_trans hb HB1))), (((Frm.refl w _).grown G1.out (fun r hr => .inr (.inl (by injection hr with hr; exact hr.symm)))).set (p := ⟨gm, 12, none⟩) (.inr (.inr rfl)) (.slice A1 t8.length c1))⟩

theorem takeF9_no (h : Prs w gp g B p 4) (hm : MsgAt w gm base m) (h1 : gm ≠ g) (h2 : gm ≠ gp) (hB : B ≤ gm) (hb : base ≤ w.heap.size) (hp : ptext 64 p = none) :
    Calls Tryd.prog 56 #[.pointer (some ⟨gp, 0, none⟩), .pointer (some ⟨gm, 0, none⟩), .int .u16 512] w fun r w' => r = dies 4 ∧ w.grownBy w' (some g) := by
  have C := Lib.hid (WText_no (m := 64) (by decide) h hp)
  clear h hm
  go_enter Tryd.func56, Tryd.ntmps56
  go_wp2_with fail
  refine C.out.mono ?_
  rintro e w1 ⟨rfl, g1⟩
  exact ⟨rfl, rfl, g1⟩

theorem takeF10_ok (h : Prs w gp g B p 4) (hm : MsgAt w gm base m) (h1 : gm ≠ g) (h2 : gm ≠ gp) (hB : B ≤ gm) (hb : base ≤ w.heap.size) (hp : plist p = some (t8, q)) :
    Calls Tryd.prog 56 #[.pointer (some ⟨gp, 0, none⟩), .pointer (some ⟨gm, 0, none⟩), .int .u16 1024] w fun r w' => r = .returned (.tuple #[]) ∧ Prs w' gp g B q 4 ∧ MsgAt w' gm base { m with vers := t8 } ∧ Frm w w' (fun b => b = g ∨ b = gm) := by
  have C := Lib.hid (takeList_ok h hp)
  have HM := Lib.hid hm
  obtain ⟨sA, sc, sk, _⟩ := h.rd.blk
  have HK := Lib.hid sk
  clear sk
  clear h hm hp
  go_enter Tryd.func56, Tryd.ntmps56
  go_wp2_with fail
  refine C.out.mono ?_
  rintro e w1 ⟨A1, c1, rfl, ho1, hp1, g1⟩
  have M1 := HM.out.reader HK.out g1 h1
  have f15 := M1.cells 15 (by decide)
  have z15 := M1.fz 15
  have zz := M1.lt
  have P1 := Lib.hid hp1
  have G1 := Lib.hid g1
  have HM1 := Lib.hid M1
  have O1 := Lib.hid ho1
  obtain ⟨v15, f15⟩ := f15
  clear hp1 g1 M1 ho1
  go_wp2_with fail
  exact bodyPost_end (v := .tuple #[]) (results_none (by rfl) _ _ _) (by rfl) ⟨rfl, (P1.out.set_ h1 h2 hB 15 (.slice A1 t8.length c1)), (HM1.out.putVers (OwnV.lower O1.out hb)), (((Frm.refl w _).grown G1.out (fun r hr => .inr (.inl (by injection hr with hr; exact hr.symm)))).set (p := ⟨gm, 15, none⟩) (.inr (.inr rfl)) (.slice A1 t8.length c1))⟩

theorem takeF10_no (h : Prs w gp g B p 4) (hm : MsgAt w gm base m) (h1 : gm ≠ g) (h2 : gm ≠ gp) (hB : B ≤ gm) (hb : base ≤ w.heap.size) (hp : plist p = none) :
    Calls Tryd.prog 56 #[.pointer (some ⟨gp, 0, none⟩), .pointer (some ⟨gm, 0, none⟩), .int .u16 1024] w fun r w' => r = dies 4 ∧ w.grownBy w' (some g) := by
  have C := Lib.hid (takeList_no h hp)
  clear h hm
  go_enter Tryd.func56, Tryd.ntmps56
  go_wp2_with fail
  refine C.out.mono ?_
  rintro e w1 ⟨rfl, g1⟩
  exact ⟨rfl, rfl, g1⟩
end
end Go.Proofs.YtfedofoadfipcaaDoor
