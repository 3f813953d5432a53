/-
  A quilt: fits, Put, New, and what is told.
-/
import Derived.Test.YtdafeokjedmnkaaDoorQuiltI
namespace Go.Proofs.YtdafeokjedmnkaaDoor
open Go.RowKit Go.Maps
set_option linter.unusedVariables false
set_option linter.unusedSimpArgs false
/-- The quilt at g stands for s. -/
structure Qlt (w : World) (base g n : Nat) (s : QS) : Prop where
  q : ∃ M, Blk w g 63 (QV M s.rd s.wh s.hi (s.T.length - s.rd) s.en) ∧ Pat w base M n s.f s.rd
  ok : QOk s
  hg : base ≤ g
theorem Qlt.drewN {w : World} {base g n : Nat} {s : QS} (h : Qlt w base g n s) (k : Nat) : Qlt (w.drewN k) base g n s := by
  obtain ⟨M, h1, h2⟩ := h.q
  have := (StQ.drewN (w := w) (hi := s.hi) (en := s.en) (hd := s.T.length - s.rd) (wh := s.wh) ⟨h1, h2, KeepT.refl _ _, Below.refl _ _⟩ k)
  exact ⟨⟨M, this.q, this.pat⟩, h.ok, h.hg⟩
theorem Qlt.lt {w : World} {base g n : Nat} {s : QS} (h : Qlt w base g n s) : g < w.heap.size := by
  obtain ⟨M, h1, h2⟩ := h.q
  exact h1.lt
theorem Qlt.grown {w w' : World} {base g n : Nat} {s : QS} {row : Option Nat} (h : Qlt w base g n s) (hg : w.grownBy w' row) (hrow : ∀ r, row = some r → ∃ T cs, Blk w r T cs ∧ T ≠ 63 ∧ T ≠ 67) : Qlt w' base g n s := by
  obtain ⟨M, h1, h2⟩ := h.q
  have hne : ∀ q T cs, Blk w q T cs → (T = 63 ∨ T = 67) → some q ≠ row := fun q T cs hb hT e => by
    obtain ⟨T', cs', hb', h3, h4⟩ := hrow q e.symm
    exact Blk.ne_ hb hb' (by rcases hT with rfl | rfl; exact Ne.symm h3; exact Ne.symm h4) rfl
  refine ⟨⟨M, h1.grown hg (hne _ _ _ h1 (.inl rfl)), ?_⟩, h.ok, h.hg⟩
  rcases h2 with h2 | ⟨B, pt, h2, h3⟩
  · exact .inl h2
  · refine .inr ⟨B, pt, h2, h3.grown hg (fun e => ?_) (fun j gp hj => ?_)⟩
    · obtain ⟨T', cs', hb', _⟩ := hrow B e.symm
      exact h3.map.ne hb' rfl
    · obtain ⟨cs, hb⟩ := h3.block hj
      exact hne _ _ _ hb (.inr rfl)
theorem Qlt.alloc {w : World} {base g n : Nat} {s : QS} (h : Qlt w base g n s) (o : Obj) : Qlt (w.alloc o) base g n s := h.grown (World.grownBy_alloc w o none) (fun r e => by cases e)
theorem Qlt.keep {w w' : World} {base g n : Nat} {s : QS} (h : Qlt w base g n s) (hb : Below w.heap.size w w') : Qlt w' base g n s := h.grown (row := none) ⟨hb.os, hb.tape, hb.output, hb.size, fun i hi _ => hb.block i hi⟩ (fun r e => by cases e)
theorem QNew_any (w : World) : Calls Tryd.prog 9 #[] w fun r w' => ∃ g, r = .returned (.pointer (some ⟨g, 0, none⟩)) ∧ Qlt w' w.heap.size g 0 qs0 ∧ Below w.heap.size w w' := by
  go_enter Tryd.func9, Tryd.ntmps9
  go_wp2_with fail
  go_ret
  exact ⟨w.heap.size, rfl, ⟨⟨.map none, Blk.new w _ _, .inl ⟨rfl, fun x hx => rfl⟩⟩, qs0_ok, Nat.le_refl _⟩, (Below.refl _ _).alloc (Nat.le_refl _) _⟩
def qFits (s : QS) (to : Int) (e : Bool) : Bool := !(s.en && decide (s.hi < to)) && (!e || decide (s.hi ≤ to))
theorem fits_any (g : Nat) (M : Value) (rd wh hi hd to : Int) (en e : Bool) (w : World) (h : Blk w g 63 (QV M rd wh hi hd en)) :
    Calls Tryd.prog 29 #[.pointer (some ⟨g, 0, none⟩), .int .u64 to, .bool e] w fun r w' => r = .returned (.bool (!(en && decide (hi < to)) && (!e || decide (hi ≤ to)))) ∧ w = w' := by
  have c3 := h.cell 3
  have c5 := h.cell 5
  simp [QV] at c3 c5
  clear h
  rcases en with _ | _
  · rcases e with _ | _
    all_goals (
      go_enter Tryd.func29, Tryd.ntmps29
      go_wp2_with fail
      go_ret
      exact ⟨by simp, rfl⟩)
  · by_cases h1 : hi < to
    · have hd : decide (hi < to) = true := by simpa using h1
      rw [hd]
      go_enter Tryd.func29, Tryd.ntmps29
      go_wp2_with fail
      go_ret
      exact ⟨rfl, rfl⟩
    · have hd : decide (hi < to) = false := by simpa using h1
      rw [hd]
      rcases e with _ | _
      all_goals (
        go_enter Tryd.func29, Tryd.ntmps29
        go_wp2_with fail
        go_ret
        exact ⟨by simp, rfl⟩)
theorem Held_any (base g n : Nat) (s : QS) (w : World) (h : Qlt w base g n s) : Calls Tryd.prog 21 #[.pointer (some ⟨g, 0, none⟩)] w fun r w' => r = .returned (.int .i64 (s.T.length - s.rd)) ∧ w = w' := by
  obtain ⟨M, h1, h2⟩ := h.q
  have c := h1.cell 4
  simp [QV] at c
  clear h h1 h2
  go_enter Tryd.func21, Tryd.ntmps21
  go_wp2_with fail
  go_ret
  exact ⟨rfl, rfl⟩
theorem High_any (base g n : Nat) (s : QS) (w : World) (h : Qlt w base g n s) : Calls Tryd.prog 26 #[.pointer (some ⟨g, 0, none⟩)] w fun r w' => r = .returned (.int .u64 s.hi) ∧ w = w' := by
  obtain ⟨M, h1, h2⟩ := h.q
  have c := h1.cell 3
  simp [QV] at c
  clear h h1 h2
  go_enter Tryd.func26, Tryd.ntmps26
  go_wp2_with fail
  go_ret
  exact ⟨rfl, rfl⟩
theorem Read_any (base g n : Nat) (s : QS) (w : World) (h : Qlt w base g n s) : Calls Tryd.prog 27 #[.pointer (some ⟨g, 0, none⟩)] w fun r w' => r = .returned (.int .u64 s.rd) ∧ w = w' := by
  obtain ⟨M, h1, h2⟩ := h.q
  have c := h1.cell 1
  simp [QV] at c
  clear h h1 h2
  go_enter Tryd.func27, Tryd.ntmps27
  go_wp2_with fail
  go_ret
  exact ⟨rfl, rfl⟩
theorem results_tmp2 {fn : Func} {t u : Tmp} (h : fn.results = #[.tmp t, .tmp u]) (tmps : Array Value) (P : Program) (w : World) :
    (results fn tmps).run P w = .ok (.tuple #[tmps.getD t undef, tmps.getD u undef]) w := by
  simp [results, h]
theorem End_any (base g n : Nat) (s : QS) (w : World) (h : Qlt w base g n s) : Calls Tryd.prog 25 #[.pointer (some ⟨g, 0, none⟩)] w fun r w' => r = .returned (.tuple #[.int .u64 (if s.en then s.hi else 0), .bool s.en]) ∧ w = w' := by
  obtain ⟨M, h1, h2⟩ := h.q
  have c3 := h1.cell 3
  have c5 := h1.cell 5
  simp [QV] at c3 c5
  clear h h1 h2
  generalize s.en = en at *
  generalize s.hi = hi at *
  rcases en with _ | _
  all_goals (
    go_enter Tryd.func25, Tryd.ntmps25
    go_wp2_with fail
    exact bodyPost_ret (results_tmp2 rfl _ _ _) rfl ⟨rfl, rfl⟩)
theorem Ready_any (base g n : Nat) (s : QS) (w : World) (h : Qlt w base g n s) : Calls Tryd.prog 19 #[.pointer (some ⟨g, 0, none⟩)] w fun r w' => r = .returned (.int .i64 (s.wh - s.rd)) ∧ ∃ k, w' = w.drewN k := by
  obtain ⟨M, h1, h2⟩ := h.q
  have c1 := h1.cell 1
  have c2 := h1.cell 2
  simp [QV] at c1 c2
  obtain ⟨_, _, _, _, r0, r1, w1, h1'⟩ := h.ok
  clear h h1 h2
  have wr1 : IntKind.u64.wrap (s.wh - s.rd) = s.wh - s.rd := IntWalk.u64_in _ (by omega)
  have wr2 : IntKind.i64.wrap (s.wh - s.rd) = s.wh - s.rd := IntWalk.i64_in _ (by omega)
  generalize s.wh = wh at *
  generalize s.rd = rd at *
  go_enter Tryd.func19, Tryd.ntmps19
  go_wp2_with fail
  go_region
  go_wp2_with fail
  go_ret
  exact ⟨rfl, 1, rfl⟩
theorem Done_any (base g n : Nat) (s : QS) (w : World) (h : Qlt w base g n s) : Calls Tryd.prog 23 #[.pointer (some ⟨g, 0, none⟩)] w fun r w' => r = .returned (.bool (s.en && decide (s.rd = s.hi))) ∧ ∃ k, w' = w.drewN k := by
  obtain ⟨M, h1, h2⟩ := h.q
  have c1 := h1.cell 1
  have c3 := h1.cell 3
  have c5 := h1.cell 5
  simp [QV] at c1 c3 c5
  clear h h1 h2
  generalize s.en = en at *
  generalize s.hi = hi at *
  generalize s.rd = rd at *
  rcases en with _ | _
  · go_enter Tryd.func23, Tryd.ntmps23
    go_wp2_with fail
    go_quiet (fail)
    go_wp2_with fail
    go_ret
    exact ⟨rfl, _, rfl⟩
  · by_cases he : rd = hi
    · have hd : decide (rd = hi) = true := by simpa using he
      have hb : (rd == hi) = true := by simpa using he
      rw [hd]
      go_enter Tryd.func23, Tryd.ntmps23
      go_wp2_with fail
      go_quiet (fail)
      go_wp2_with fail
      go_ret
      exact ⟨rfl, _, rfl⟩
    · have hd : decide (rd = hi) = false := by simpa using he
      have hb : (rd == hi) = false := by simpa using he
      rw [hd]
      go_enter Tryd.func23, Tryd.ntmps23
      go_wp2_with fail
      go_quiet (fail)
      go_wp2_with fail
      go_ret
      exact ⟨rfl, _, rfl⟩
end Go.Proofs.YtdafeokjedmnkaaDoor
