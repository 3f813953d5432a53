/-
  takeFields of a Stream or a Datagram that goes up to the end.
-/
import Derived.Test.YtfimngmpkckcdaaDoorFrameL
namespace Go.Proofs.YtfimngmpkckcdaaDoor
open Go.RowKit
set_option linter.unusedVariables false

theorem tk_all (p : List Int) : tkO p 0 p.length = p ∧ tkL p 0 p.length = [] ∧ needE 0 p.length p.length = 0 := by
  refine ⟨?_, ?_, ?_⟩
  · simp [tkO]
  · simp [tkL]
  · simp [needE]
/-- The kind, the type, the mark of the end. -/
structure KE (k t : Int) (fin : Bool) : Prop where
  ways : (k = 8 ∧ t = 8 ∧ fin = false) ∨ (k = 8 ∧ t = 9 ∧ fin = true) ∨ (k = 48 ∧ t = 48 ∧ fin = false)
theorem dataLength_E (k t : Int) (fin : Bool) (hk : KE k t fin) (g B : Nat) (p : List Int) (w : World) (h : Rdr w g B p 0) :
    Calls Tryd.prog 45 #[.pointer (some ⟨g, 0, none⟩), .int .u64 k, .int .u64 t] w fun r w' => r = .returned (.int .u64 p.length) ∧ w = w' := by
  have hs := h.small
  have CL := Left_any g B p 0 w h
  rw [show leftV p 0 = p from if_pos rfl] at CL
  have HL := Lib.hid CL
  clear CL h
  have hwr : IntKind.u64.wrap (p.length : Int) = (p.length : Int) := IntWalk.u64_in _ (by omega)
  rcases hk.ways with ⟨rfl, rfl, rfl⟩ | ⟨rfl, rfl, rfl⟩ | ⟨rfl, rfl, rfl⟩
  all_goals (
    go_enter Tryd.func45, Tryd.ntmps45
    go_wp2_with fail
    refine HL.out.mono ?_
    rintro e w2 ⟨A', c', rfl, sl, rfl⟩
    go_wp2_with fail
    go_ret
    exact ⟨rfl, rfl⟩)
theorem RF.bytes {n0 : Nat} {w0 w : World} {g B gF : Nat} {p : List Int} {F : Array Value} (h : RF n0 w0 w g B gF p 0 F) :
    Calls Tryd.prog 44 #[.pointer (some ⟨g, 0, none⟩), .int .u64 p.length] w fun r w' => ∃ D c, r = .returned (.slice D p.length c) ∧ RF n0 w0 w' g B gF [] 0 F ∧ Own w' n0 D c p := by
  have hs := h.r.small
  have C := RBytes_any g B p 0 p.length w h.r (by omega)
  rw [(tk_all p).1, (tk_all p).2.1, (tk_all p).2.2] at C
  exact C.mono fun r w' ⟨A', c', h1, h2, h3, h4⟩ => ⟨A', c', h1, h.rdr h3 h4, h2.base_le h.hs⟩
set_option maxHeartbeats 1600000 in
theorem takeFields_8 (n0 : Nat) (w0 w : World) (g B gF : Nat) (t : Int) (fin : Bool) (p : List Int) (h : RF n0 w0 w g B gF p 0 (F0 8)) (p1 : List Int) (N1 : Int) (ht : KE 8 t fin)
    (h1 : numL p 0 = p1 ∧ numE p 0 = 0 ∧ numN p 0 = N1) :
    Calls Tryd.prog 27 #[.pointer (some ⟨g, 0, none⟩), .pointer (some ⟨gF, 0, none⟩), .int .u64 t] w fun r w' => r = .returned (.tuple #[]) ∧
      ∃ D c, RF n0 w0 w' g B gF [] 0 (FC 8 N1 0 0 0 fin D p1.length c none 0 0 none 0 0) ∧ Own w' n0 D c p1 := by
  have C0 := fieldsOf_any 8
  rw [show foI 8 = 53 by decide, show knB 8 = true by decide] at C0
  have HC0 := Lib.hid C0
  have C1 := h.num
  rw [h1.1, h1.2.1, h1.2.2] at C1
  have HC1 := Lib.hid C1
  have c0 := h.f.cell 0
  simp [F0, FC] at c0
  have HD := Lib.hid (fun W (r : Rdr W g B p1 0) => dataLength_E 8 t fin ht g B p1 W r)
  clear C0 C1 h1 h
  have hw : (t = 8 ∧ fin = false) ∨ (t = 9 ∧ fin = true) := by
    rcases ht.ways with ⟨_, rfl, rfl⟩ | ⟨_, rfl, rfl⟩ | ⟨h, _, _⟩
    · exact .inl ⟨rfl, rfl⟩
    · exact .inr ⟨rfl, rfl⟩
    · omega
  clear ht
  rcases hw with ⟨rfl, rfl⟩ | ⟨rfl, rfl⟩
  · go_enter Tryd.func27, Tryd.ntmps27
    go_wp2_with fail
    refine (HC0.out _).mono ?_
    rintro r w1 ⟨rfl, rfl⟩
    go_wp2_with fail
    refine HC1.out.mono ?_
    rintro r w1 ⟨rfl, s1⟩
    have q1 := s1.f.cell 1
    have f1 := s1.f.frozen 1
    have q0 := s1.f.cell 0
    simp [F0, FC] at q0 q1
    have T1 := Lib.hid ((s1.set 1 (.int .u64 N1)).as (F' := FC 8 N1 0 0 0 false none 0 0 none 0 0 none 0 0) rfl)
    have q5 := s1.f.cell 5
    have f5 := s1.f.frozen 5
    have g0 := T1.out.f.cell 0
    have g5 := T1.out.f.cell 5
    have gf5 := T1.out.f.frozen 5
    simp [F0, FC] at q5 g0 g5
    clear c0 s1
    generalize hW1 : w1.setCell ⟨gF, 1, none⟩ (.int .u64 N1) = W1 at T1 g0 g5 gf5
    have eb : (bits BinOp.and IntKind.u64 8 1 != 0) = false := by decide
    have T5 := Lib.hid ((T1.out.set 5 (.bool (bits BinOp.and IntKind.u64 8 1 != 0))).as (F' := FC 8 N1 0 0 0 false none 0 0 none 0 0 none 0 0) (by rw [eb]; rfl))
    have X0 := T5.out.f.cell 0
    simp [FC] at X0
    have HDD := Lib.hid (HD.out _ T5.out.r)
    have HBY := Lib.hid T5.out.bytes
    clear eb T1
    go_wp2_with fail
    refine HDD.out.mono ?_
    rintro r w2 ⟨rfl, rfl⟩
    go_wp2_with fail
    refine HBY.out.mono ?_
    rintro r w2 ⟨D, c, rfl, s2, o2⟩
    clear g0 g5 gf5 q0 q1 q5 f1 f5 X0 HDD HBY T5 hW1
    have q6 := s2.f.cell 6
    have f6 := s2.f.frozen 6
    simp [FC] at q6
    have T6 := Lib.hid ((s2.set 6 (.slice D p1.length c)).as (F' := FC 8 N1 0 0 0 false D p1.length c none 0 0 none 0 0) rfl)
    have O6 := Lib.hid (own_gs o2 s2.f (by decide) (gset (g := gF) (i := 6) (u := .slice D p1.length c)))
    clear s2 o2
    go_wp2_with fail
    exact bodyPost_end (v := .tuple #[]) (results_none (by rfl) _ _ _) (by rfl) ⟨rfl, D, c, T6.out, O6.out⟩
  · go_enter Tryd.func27, Tryd.ntmps27
    go_wp2_with fail
    refine (HC0.out _).mono ?_
    rintro r w1 ⟨rfl, rfl⟩
    go_wp2_with fail
    refine HC1.out.mono ?_
    rintro r w1 ⟨rfl, s1⟩
    have q1 := s1.f.cell 1
    have f1 := s1.f.frozen 1
    have q0 := s1.f.cell 0
    simp [F0, FC] at q0 q1
    have T1 := Lib.hid ((s1.set 1 (.int .u64 N1)).as (F' := FC 8 N1 0 0 0 false none 0 0 none 0 0 none 0 0) rfl)
    have q5 := s1.f.cell 5
    have f5 := s1.f.frozen 5
    have g0 := T1.out.f.cell 0
    have g5 := T1.out.f.cell 5
    have gf5 := T1.out.f.frozen 5
    simp [F0, FC] at q5 g0 g5
    clear c0 s1
    generalize hW1 : w1.setCell ⟨gF, 1, none⟩ (.int .u64 N1) = W1 at T1 g0 g5 gf5
    have eb : (bits BinOp.and IntKind.u64 9 1 != 0) = true := by decide
    have T5 := Lib.hid ((T1.out.set 5 (.bool (bits BinOp.and IntKind.u64 9 1 != 0))).as (F' := FC 8 N1 0 0 0 true none 0 0 none 0 0 none 0 0) (by rw [eb]; rfl))
    have X0 := T5.out.f.cell 0
    simp [FC] at X0
    have HDD := Lib.hid (HD.out _ T5.out.r)
    have HBY := Lib.hid T5.out.bytes
    clear eb T1
    go_wp2_with fail
    refine HDD.out.mono ?_
    rintro r w2 ⟨rfl, rfl⟩
    go_wp2_with fail
    refine HBY.out.mono ?_
    rintro r w2 ⟨D, c, rfl, s2, o2⟩
    clear g0 g5 gf5 q0 q1 q5 f1 f5 X0 HDD HBY T5 hW1
    have q6 := s2.f.cell 6
    have f6 := s2.f.frozen 6
    simp [FC] at q6
    have T6 := Lib.hid ((s2.set 6 (.slice D p1.length c)).as (F' := FC 8 N1 0 0 0 true D p1.length c none 0 0 none 0 0) rfl)
    have O6 := Lib.hid (own_gs o2 s2.f (by decide) (gset (g := gF) (i := 6) (u := .slice D p1.length c)))
    clear s2 o2
    go_wp2_with fail
    exact bodyPost_end (v := .tuple #[]) (results_none (by rfl) _ _ _) (by rfl) ⟨rfl, D, c, T6.out, O6.out⟩
set_option maxHeartbeats 1600000 in
theorem takeFields_48 (n0 : Nat) (w0 w : World) (g B gF : Nat) (p : List Int) (h : RF n0 w0 w g B gF p 0 (F0 48)) :
    Calls Tryd.prog 27 #[.pointer (some ⟨g, 0, none⟩), .pointer (some ⟨gF, 0, none⟩), .int .u64 48] w fun r w' => r = .returned (.tuple #[]) ∧
      ∃ D c, RF n0 w0 w' g B gF [] 0 (FC 48 0 0 0 0 false D p.length c none 0 0 none 0 0) ∧ Own w' n0 D c p := by
  have C0 := fieldsOf_any 48
  rw [show foI 48 = 32 by decide, show knB 48 = true by decide] at C0
  have HC0 := Lib.hid C0
  have c0 := h.f.cell 0
  simp [F0, FC] at c0
  have HDD := Lib.hid (dataLength_E 48 48 false ⟨.inr (.inr ⟨rfl, rfl, rfl⟩)⟩ g B p w h.r)
  have HBY := Lib.hid h.bytes
  clear C0 h
  go_enter Tryd.func27, Tryd.ntmps27
  go_wp2_with fail
  refine (HC0.out _).mono ?_
  rintro r w1 ⟨rfl, rfl⟩
  go_wp2_with fail
  refine HDD.out.mono ?_
  rintro r w2 ⟨rfl, rfl⟩
  go_wp2_with fail
  refine HBY.out.mono ?_
  rintro r w2 ⟨D, c, rfl, s2, o2⟩
  clear c0 HDD HBY
  have q6 := s2.f.cell 6
  have f6 := s2.f.frozen 6
  simp [F0, FC] at q6
  have T6 := Lib.hid ((s2.set 6 (.slice D p.length c)).as (F' := FC 48 0 0 0 0 false D p.length c none 0 0 none 0 0) rfl)
  have O6 := Lib.hid (own_gs o2 s2.f (by decide) (gset (g := gF) (i := 6) (u := .slice D p.length c)))
  clear s2 o2
  go_wp2_with fail
  exact bodyPost_end (v := .tuple #[]) (results_none (by rfl) _ _ _) (by rfl) ⟨rfl, D, c, T6.out, O6.out⟩
theorem kindOf_E (k t : Int) (fin : Bool) (hk : KE k t fin) (w : World) : Calls Tryd.prog 20 #[.int .u64 t] w fun r w' => r = .returned (.int .u64 k) ∧ w = w' := by
  rcases hk.ways with ⟨rfl, rfl, rfl⟩ | ⟨rfl, rfl, rfl⟩ | ⟨rfl, rfl, rfl⟩
  all_goals (
    go_enter Tryd.func20, Tryd.ntmps20
    go_wp2
    go_ret
    exact ⟨rfl, rfl⟩)
theorem knows_E (k t : Int) (fin : Bool) (hk : KE k t fin) (w : World) : Calls Tryd.prog 22 #[.int .u64 k] w fun r w' => r = .returned (.bool true) ∧ w = w' := by
  have C := fieldsOf_any k
  rw [show knB k = true by rcases hk.ways with ⟨rfl, _⟩ | ⟨rfl, _⟩ | ⟨rfl, _⟩ <;> decide] at C
  have HC := Lib.hid C
  clear C hk
  go_enter Tryd.func22, Tryd.ntmps22
  go_wp2_with fail
  refine (HC.out _).mono ?_
  rintro r w1 ⟨rfl, rfl⟩
  go_wp2_with fail
  go_ret
  exact ⟨rfl, rfl⟩
/-- What takeFields leaves, whichever it is. -/
theorem takeFields_E (k t : Int) (fin : Bool) (hk : KE k t fin) (n0 : Nat) (w0 w : World) (g B gF : Nat) (p p1 : List Int) (N1 : Int) (h : RF n0 w0 w g B gF p 0 (F0 k))
    (h8 : k = 8 → numL p 0 = p1 ∧ numE p 0 = 0 ∧ numN p 0 = N1) (h48 : k = 48 → p1 = p ∧ N1 = 0) :
    Calls Tryd.prog 27 #[.pointer (some ⟨g, 0, none⟩), .pointer (some ⟨gF, 0, none⟩), .int .u64 t] w fun r w' => r = .returned (.tuple #[]) ∧
      ∃ D c, RF n0 w0 w' g B gF [] 0 (FC k N1 0 0 0 fin D p1.length c none 0 0 none 0 0) ∧ Own w' n0 D c p1 := by
  by_cases h0 : k = 8
  · subst h0
    exact takeFields_8 n0 w0 w g B gF t fin p h p1 N1 hk (h8 rfl)
  · rcases hk.ways with ⟨h1, _⟩ | ⟨h1, _⟩ | ⟨rfl, rfl, rfl⟩
    · exact absurd h1 h0
    · exact absurd h1 h0
    · obtain ⟨rfl, rfl⟩ := h48 rfl
      exact takeFields_48 n0 w0 w g B gF p1 h
end Go.Proofs.YtfimngmpkckcdaaDoor
