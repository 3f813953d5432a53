/-
  WordAsks (made by mkWordU.py).
-/
import Derived.Test.YtmicehfofmjcjaaDoorWordT
import Derived.Test.YtmicehfofmjcjaaDoorWordR
import Derived.Deep.RegionHeld
import Derived.Deep.MidRow
namespace Go.Proofs.YtmicehfofmjcjaaDoor
open Go.RowKit
set_option linter.unusedVariables false
set_option linter.unusedSimpArgs false
theorem lessB_anti (a b c d : Int) : (lessB a b c d && lessB c d a b) = false := by
  unfold lessB
  by_cases h : a = c
  · subst h
    rw [if_pos rfl, if_pos rfl]
    by_cases h2 : b < d
    · have : ¬ d < b := by omega
      simp [this]
    · simp [h2]
  · rw [if_neg h, if_neg (fun e => h e.symm)]
    by_cases h2 : a < c
    · have : ¬ c < a := by omega
      simp [this]
    · simp [h2]
/-- The three boxes of WordAsks. -/
structure AskBx (w W : World) (gm ga gb : Nat) (mc : Array Value) (a1 a2 b1 b2 : Int) : Prop where
  m : Blk W gm 28 mc
  a : Blk W ga 25 #[.int .u64 a1, .int .u64 a2]
  b : Blk W gb 25 #[.int .u64 b1, .int .u64 b2]
  bel : Below w.heap.size w W
theorem AskBx.setRow {w W : World} {gm ga gb : Nat} {mc mc' : Array Value} {a1 a2 b1 b2 : Int} (h : AskBx w W gm ga gb mc a1 a2 b1 b2) (hg : w.heap.size ≤ gm) (h1 : gm < ga) (h2 : ga < gb) : AskBx w (W.setRow gm mc') gm ga gb mc' a1 a2 b1 b2 :=
  ⟨Blk.setRowPW h.m, (setRow_other W gm ga mc' (by omega)).trans h.a, (setRow_other W gm gb mc' (by omega)).trans h.b, below_gsW h.bel grow_rowW hg h.bel.size⟩
theorem AskBx.below {w W W' : World} {gm ga gb : Nat} {mc : Array Value} {a1 a2 b1 b2 : Int} (h : AskBx w W gm ga gb mc a1 a2 b1 b2) (hb : Below W.heap.size W W') : AskBx w W' gm ga gb mc a1 a2 b1 b2 :=
  ⟨h.m.below hb h.m.lt, h.a.below hb h.a.lt, h.b.below hb h.b.lt, h.bel.trans (hb.mono h.bel.size)⟩
set_option maxRecDepth 100000 in
set_option maxHeartbeats 3200000 in
theorem asks_walk (x : RM) (a1 a2 b1 b2 : Int) (w : World) (ht : Tab w) (hx : RMOk w x) :
    Calls Tryd.prog 6 #[.agg x.val, .agg #[.int .u64 a1, .int .u64 a2], .agg #[.int .u64 b1, .int .u64 b2]] w fun r w' => r = .returned (.bool true) ∧ Below w.heap.size w w' := by
  obtain ⟨W, hW⟩ : ∃ W, W = ((w.alloc (.cells x.val 28)).alloc (.cells #[.int .u64 a1, .int .u64 a2] 25)).alloc (.cells #[.int .u64 b1, .int .u64 b2] 25) := ⟨_, rfl⟩
  obtain ⟨gm, hgm⟩ : ∃ g, g = w.heap.size := ⟨_, rfl⟩
  obtain ⟨ga, hga⟩ : ∃ g, g = w.heap.size + 1 := ⟨_, rfl⟩
  obtain ⟨gb, hgb⟩ : ∃ g, g = w.heap.size + 2 := ⟨_, rfl⟩
  have X0 : AskBx w W gm ga gb x.val a1 a2 b1 b2 := by
    refine ⟨?_, ?_, ?_, ?_⟩
    · rw [hW, hgm]; exact ((Blk.new _ _ _).alloc _).alloc _
    · rw [hW, hga]; exact (blk_2ndW _ _ _ _).alloc _
    · rw [hW, hgb]
      have := Blk.new ((w.alloc (.cells x.val 28)).alloc (.cells #[.int .u64 a1, .int .u64 a2] 25)) 25 #[.int .u64 b1, .int .u64 b2]
      simpa using this
    · rw [hW]; exact (((Below.refl _ _).alloc (Nat.le_refl _) _).alloc (by simp) _).alloc (by simp; omega) _
  have HX := Lib.hid X0
  have AW := Lib.hid (awake15_any W (ht.below X0.bel))
  have FW := Lib.hid (fun W' (h : AskBx w W' gm ga gb x.val a1 a2 b1 b2) => fewW_any x W' (show RMOk W' x from ⟨hx.kind, hx.id, hx.alias_, hx.sg, hx.so, hx.eg, hx.eo, hx.code, hx.n, hx.ver, hx.prio, hx.ord, ⟨⟨hx.nm.1.rd.below h.bel, hx.nm.1.le, hx.nm.1.max, hx.nm.1.nil⟩, hx.nm.2⟩, ⟨⟨hx.rs.1.rd.below h.bel, hx.rs.1.le, hx.rs.1.max, hx.rs.1.nil⟩, hx.rs.2⟩, ⟨hx.vs.rd.below h.bel, hx.vs.ok, hx.vs.le, hx.vs.max, hx.vs.nil⟩⟩))
  obtain ⟨⟨kind, id, alias_, name, prio, ord, sg, so, eg, eo, some_, code, reason, n, ver, vers⟩, nA, nc, rA, rc, vA, vc⟩ := x
  obtain ⟨M, hM⟩ : ∃ M, M = cutM ⟨kind, id, alias_, name, prio, ord, sg, so, eg, eo, some_, code, reason, n, ver, vers⟩ := ⟨_, rfl⟩
  have FW2 := Lib.hid (fun W' h => (FW.out W' h).mono fun r w' (q : FewTo W' w' _ r) => (show (∃ nA nc rA rc vA vc, r = .returned (.agg (mvC M nA nc rA rc vA vc))) ∧ Below W'.heap.size W' w' from ⟨by obtain ⟨_, _, _, _, _, _, e, _⟩ := q.ok; exact ⟨_, _, _, _, _, _, by rw [hM]; exact e⟩, q.bel⟩))
  unfold RM.val mvC at HX hW FW2 ⊢
  simp only at HX hW FW2 ⊢
  have HW := Lib.hid hW
  have hga0 : gm < ga := by omega
  have hgb0 : ga < gb := by omega
  clear hW hM X0 hx ht FW
  have E := Lib.hid (show w.heap.size = gm ∧ w.heap.size + 1 = ga ∧ w.heap.size + 2 = gb from ⟨hgm.symm, hga.symm, by omega⟩)
  clear hgm hga hgb
  go_enter Tryd.func6, Tryd.ntmps6
  go_wp2_with fail
  rw [← HW.out, show w.heap.size + 1 + 1 = gb from E.out.2.2, E.out.2.1, E.out.1]
  refine AW.out.mono ?_
  rintro e w1 ⟨rfl, b1⟩
  have x1 := HX.out.below b1
  have km := x1.m
  have zm := km.lt
  have F1 := Lib.hid (FW2.out w1 x1)
  have X1 := Lib.hid x1
  have c0 := km.cell 0
  have c1 := km.cell 1
  have c2 := km.cell 2
  have c3 := km.cell 3
  have c4 := km.cell 4
  have c5 := km.cell 5
  have c6 := km.cell 6
  have c7 := km.cell 7
  have c8 := km.cell 8
  have c9 := km.cell 9
  have c10 := km.cell 10
  have c11 := km.cell 11
  have c12 := km.cell 12
  have c13 := km.cell 13
  have c14 := km.cell 14
  have c15 := km.cell 15
  simp only [List.getElem?_toArray, List.getElem?_cons_zero, List.getElem?_cons_succ] at c0 c1 c2 c3 c4 c5 c6 c7 c8 c9 c10 c11 c12 c13 c14 c15
  clear x1 b1 km AW FW2 HW HX
  go_wp2_with fail
  refine F1.out.mono ?_
  rintro e w2 ⟨⟨nA', nc', rA', rc', vA', vc', rfl⟩, b2⟩
  have X2 := Lib.hid (X1.out.below b2)
  clear F1 X1 b2 c0 c1 c2 c3 c4 c5 c6 c7 c8 c9 c10 c11 c12 c13 c14 c15 zm
  have hmg : w.heap.size ≤ gm := by have := E.out.1; omega
  have X3 := Lib.hid (show AskBx w (w2.setRow gm #[.int .u64 M.kind, .int .u64 M.id, .int .u64 M.alias_, .slice nA' M.name.length nc', .int .u8 M.prio, .int .u8 M.ord, .int .u64 M.sg, .int .u64 M.so, .int .u64 M.eg, .int .u64 M.eo, .bool M.some_, .int .u64 M.code, .slice rA' M.reason.length rc', .int .u64 M.n, .int .u64 M.ver, .slice vA' M.vers.length vc']) gm ga gb #[.int .u64 M.kind, .int .u64 M.id, .int .u64 M.alias_, .slice nA' M.name.length nc', .int .u8 M.prio, .int .u8 M.ord, .int .u64 M.sg, .int .u64 M.so, .int .u64 M.eg, .int .u64 M.eo, .bool M.some_, .int .u64 M.code, .slice rA' M.reason.length rc', .int .u64 M.n, .int .u64 M.ver, .slice vA' M.vers.length vc'] a1 a2 b1 b2 from X2.out.setRow hmg hga0 hgb0)
  have HMC := Lib.hid (show #[.int .u64 M.kind, .int .u64 M.id, .int .u64 M.alias_, .slice nA' M.name.length nc', .int .u8 M.prio, .int .u8 M.ord, .int .u64 M.sg, .int .u64 M.so, .int .u64 M.eg, .int .u64 M.eo, .bool M.some_, .int .u64 M.code, .slice rA' M.reason.length rc', .int .u64 M.n, .int .u64 M.ver, .slice vA' M.vers.length vc'] = mvC M nA' nc' rA' rc' vA' vc' from rfl)
  obtain ⟨w3, hw3⟩ : ∃ w3, w3 = w2.setRow gm #[.int .u64 M.kind, .int .u64 M.id, .int .u64 M.alias_, .slice nA' M.name.length nc', .int .u8 M.prio, .int .u8 M.ord, .int .u64 M.sg, .int .u64 M.so, .int .u64 M.eg, .int .u64 M.eo, .bool M.some_, .int .u64 M.code, .slice rA' M.reason.length rc', .int .u64 M.n, .int .u64 M.ver, .slice vA' M.vers.length vc'] := ⟨_, rfl⟩
  rw [← hw3] at X3
  have HW3 := Lib.hid hw3
  clear hw3
  go_wp2_with (refine wpList_store_row rfl 28 (.tmp 3) (.tmp 10) rfl gm _ rfl rfl 28 _ X2.out.m info_rmsg rfl (by simp [Value.oneCell']) ?_)
  rw [← HW3.out]
  obtain ⟨h, hh⟩ : ∃ h, h = hasM M a1 a2 := ⟨_, rfl⟩
  obtain ⟨l1, hl1⟩ : ∃ h, h = lessB a1 a2 b1 b2 := ⟨_, rfl⟩
  obtain ⟨l2, hl2⟩ : ∃ h, h = lessB b1 b2 a1 a2 := ⟨_, rfl⟩
  have han : (l1 && l2) = false := by rw [hl1, hl2]; exact lessB_anti a1 a2 b1 b2
  have C1 := Lib.hid (show ∀ W', AskBx w W' gm ga gb #[.int .u64 M.kind, .int .u64 M.id, .int .u64 M.alias_, .slice nA' M.name.length nc', .int .u8 M.prio, .int .u8 M.ord, .int .u64 M.sg, .int .u64 M.so, .int .u64 M.eg, .int .u64 M.eo, .bool M.some_, .int .u64 M.code, .slice rA' M.reason.length rc', .int .u64 M.n, .int .u64 M.ver, .slice vA' M.vers.length vc'] a1 a2 b1 b2 → Calls Tryd.prog 19 #[.agg #[.int .u64 M.kind, .int .u64 M.id, .int .u64 M.alias_, .slice nA' M.name.length nc', .int .u8 M.prio, .int .u8 M.ord, .int .u64 M.sg, .int .u64 M.so, .int .u64 M.eg, .int .u64 M.eo, .bool M.some_, .int .u64 M.code, .slice rA' M.reason.length rc', .int .u64 M.n, .int .u64 M.ver, .slice vA' M.vers.length vc'], .agg #[.int .u64 a1, .int .u64 a2]] W' fun r w' => r = .returned (.bool h) ∧ AskBx w w' gm ga gb #[.int .u64 M.kind, .int .u64 M.id, .int .u64 M.alias_, .slice nA' M.name.length nc', .int .u8 M.prio, .int .u8 M.ord, .int .u64 M.sg, .int .u64 M.so, .int .u64 M.eg, .int .u64 M.eo, .bool M.some_, .int .u64 M.code, .slice rA' M.reason.length rc', .int .u64 M.n, .int .u64 M.ver, .slice vA' M.vers.length vc'] a1 a2 b1 b2 from fun W' q => (HasW_any M nA' nc' rA' rc' vA' vc' a1 a2 W').mono fun r w' ⟨e, b⟩ => ⟨by rw [hh]; exact e, q.below b⟩)
  have C2 := Lib.hid (show ∀ W', AskBx w W' gm ga gb #[.int .u64 M.kind, .int .u64 M.id, .int .u64 M.alias_, .slice nA' M.name.length nc', .int .u8 M.prio, .int .u8 M.ord, .int .u64 M.sg, .int .u64 M.so, .int .u64 M.eg, .int .u64 M.eo, .bool M.some_, .int .u64 M.code, .slice rA' M.reason.length rc', .int .u64 M.n, .int .u64 M.ver, .slice vA' M.vers.length vc'] a1 a2 b1 b2 → Calls Tryd.prog 20 #[.agg #[.int .u64 M.kind, .int .u64 M.id, .int .u64 M.alias_, .slice nA' M.name.length nc', .int .u8 M.prio, .int .u8 M.ord, .int .u64 M.sg, .int .u64 M.so, .int .u64 M.eg, .int .u64 M.eo, .bool M.some_, .int .u64 M.code, .slice rA' M.reason.length rc', .int .u64 M.n, .int .u64 M.ver, .slice vA' M.vers.length vc'], .agg #[.int .u64 a1, .int .u64 a2]] W' fun r w' => r = .returned (.bool h) ∧ AskBx w w' gm ga gb #[.int .u64 M.kind, .int .u64 M.id, .int .u64 M.alias_, .slice nA' M.name.length nc', .int .u8 M.prio, .int .u8 M.ord, .int .u64 M.sg, .int .u64 M.so, .int .u64 M.eg, .int .u64 M.eo, .bool M.some_, .int .u64 M.code, .slice rA' M.reason.length rc', .int .u64 M.n, .int .u64 M.ver, .slice vA' M.vers.length vc'] a1 a2 b1 b2 from fun W' q => (refHasW_any M nA' nc' rA' rc' vA' vc' a1 a2 W').mono fun r w' ⟨e, b⟩ => ⟨by rw [hh]; exact e, q.below b⟩)
  have C3 := Lib.hid (show ∀ W', AskBx w W' gm ga gb #[.int .u64 M.kind, .int .u64 M.id, .int .u64 M.alias_, .slice nA' M.name.length nc', .int .u8 M.prio, .int .u8 M.ord, .int .u64 M.sg, .int .u64 M.so, .int .u64 M.eg, .int .u64 M.eo, .bool M.some_, .int .u64 M.code, .slice rA' M.reason.length rc', .int .u64 M.n, .int .u64 M.ver, .slice vA' M.vers.length vc'] a1 a2 b1 b2 → Calls Tryd.prog 21 #[.agg #[.int .u64 a1, .int .u64 a2], .agg #[.int .u64 b1, .int .u64 b2]] W' fun r w' => r = .returned (.bool l1) ∧ AskBx w w' gm ga gb #[.int .u64 M.kind, .int .u64 M.id, .int .u64 M.alias_, .slice nA' M.name.length nc', .int .u8 M.prio, .int .u8 M.ord, .int .u64 M.sg, .int .u64 M.so, .int .u64 M.eg, .int .u64 M.eo, .bool M.some_, .int .u64 M.code, .slice rA' M.reason.length rc', .int .u64 M.n, .int .u64 M.ver, .slice vA' M.vers.length vc'] a1 a2 b1 b2 from fun W' q => (LessW_any a1 a2 b1 b2 W').mono fun r w' ⟨e, b⟩ => ⟨by rw [hl1]; exact e, q.below b⟩)
  have C4 := Lib.hid (show ∀ W', AskBx w W' gm ga gb #[.int .u64 M.kind, .int .u64 M.id, .int .u64 M.alias_, .slice nA' M.name.length nc', .int .u8 M.prio, .int .u8 M.ord, .int .u64 M.sg, .int .u64 M.so, .int .u64 M.eg, .int .u64 M.eo, .bool M.some_, .int .u64 M.code, .slice rA' M.reason.length rc', .int .u64 M.n, .int .u64 M.ver, .slice vA' M.vers.length vc'] a1 a2 b1 b2 → Calls Tryd.prog 22 #[.agg #[.int .u64 a1, .int .u64 a2], .agg #[.int .u64 b1, .int .u64 b2]] W' fun r w' => r = .returned (.bool l1) ∧ AskBx w w' gm ga gb #[.int .u64 M.kind, .int .u64 M.id, .int .u64 M.alias_, .slice nA' M.name.length nc', .int .u8 M.prio, .int .u8 M.ord, .int .u64 M.sg, .int .u64 M.so, .int .u64 M.eg, .int .u64 M.eo, .bool M.some_, .int .u64 M.code, .slice rA' M.reason.length rc', .int .u64 M.n, .int .u64 M.ver, .slice vA' M.vers.length vc'] a1 a2 b1 b2 from fun W' q => (refLessW_any a1 a2 b1 b2 W').mono fun r w' ⟨e, b⟩ => ⟨by rw [hl1]; exact e, q.below b⟩)
  have C5 := Lib.hid (show ∀ W', AskBx w W' gm ga gb #[.int .u64 M.kind, .int .u64 M.id, .int .u64 M.alias_, .slice nA' M.name.length nc', .int .u8 M.prio, .int .u8 M.ord, .int .u64 M.sg, .int .u64 M.so, .int .u64 M.eg, .int .u64 M.eo, .bool M.some_, .int .u64 M.code, .slice rA' M.reason.length rc', .int .u64 M.n, .int .u64 M.ver, .slice vA' M.vers.length vc'] a1 a2 b1 b2 → Calls Tryd.prog 21 #[.agg #[.int .u64 b1, .int .u64 b2], .agg #[.int .u64 a1, .int .u64 a2]] W' fun r w' => r = .returned (.bool l2) ∧ AskBx w w' gm ga gb #[.int .u64 M.kind, .int .u64 M.id, .int .u64 M.alias_, .slice nA' M.name.length nc', .int .u8 M.prio, .int .u8 M.ord, .int .u64 M.sg, .int .u64 M.so, .int .u64 M.eg, .int .u64 M.eo, .bool M.some_, .int .u64 M.code, .slice rA' M.reason.length rc', .int .u64 M.n, .int .u64 M.ver, .slice vA' M.vers.length vc'] a1 a2 b1 b2 from fun W' q => (LessW_any b1 b2 a1 a2 W').mono fun r w' ⟨e, b⟩ => ⟨by rw [hl2]; exact e, q.below b⟩)
  have KA := Lib.hid (show ∀ W, AskBx w W gm ga gb #[.int .u64 M.kind, .int .u64 M.id, .int .u64 M.alias_, .slice nA' M.name.length nc', .int .u8 M.prio, .int .u8 M.ord, .int .u64 M.sg, .int .u64 M.so, .int .u64 M.eg, .int .u64 M.eo, .bool M.some_, .int .u64 M.code, .slice rA' M.reason.length rc', .int .u64 M.n, .int .u64 M.ver, .slice vA' M.vers.length vc'] a1 a2 b1 b2 → W.cell? ⟨gm, 0, none⟩ = some (.int .u64 M.kind) ∧ W.cell? ⟨gm, 1, none⟩ = some (.int .u64 M.id) ∧ W.cell? ⟨gm, 2, none⟩ = some (.int .u64 M.alias_) ∧ W.cell? ⟨gm, 3, none⟩ = some (.slice nA' M.name.length nc') ∧ W.cell? ⟨gm, 4, none⟩ = some (.int .u8 M.prio) ∧ W.cell? ⟨gm, 5, none⟩ = some (.int .u8 M.ord) ∧ W.cell? ⟨gm, 6, none⟩ = some (.int .u64 M.sg) ∧ W.cell? ⟨gm, 7, none⟩ = some (.int .u64 M.so) ∧ W.cell? ⟨gm, 8, none⟩ = some (.int .u64 M.eg) ∧ W.cell? ⟨gm, 9, none⟩ = some (.int .u64 M.eo) ∧ W.cell? ⟨gm, 10, none⟩ = some (.bool M.some_) ∧ W.cell? ⟨gm, 11, none⟩ = some (.int .u64 M.code) ∧ W.cell? ⟨gm, 12, none⟩ = some (.slice rA' M.reason.length rc') ∧ W.cell? ⟨gm, 13, none⟩ = some (.int .u64 M.n) ∧ W.cell? ⟨gm, 14, none⟩ = some (.int .u64 M.ver) ∧ W.cell? ⟨gm, 15, none⟩ = some (.slice vA' M.vers.length vc') ∧ W.cell? ⟨ga, 0, none⟩ = some (.int .u64 a1) ∧ W.cell? ⟨ga, 1, none⟩ = some (.int .u64 a2) ∧ W.cell? ⟨gb, 0, none⟩ = some (.int .u64 b1) ∧ W.cell? ⟨gb, 1, none⟩ = some (.int .u64 b2) from fun W q => ⟨q.m.cell 0, q.m.cell 1, q.m.cell 2, q.m.cell 3, q.m.cell 4, q.m.cell 5, q.m.cell 6, q.m.cell 7, q.m.cell 8, q.m.cell 9, q.m.cell 10, q.m.cell 11, q.m.cell 12, q.m.cell 13, q.m.cell 14, q.m.cell 15, q.a.cell 0, q.a.cell 1, q.b.cell 0, q.b.cell 1⟩)
  have X4 : AskBx w w3.drew gm ga gb #[.int .u64 M.kind, .int .u64 M.id, .int .u64 M.alias_, .slice nA' M.name.length nc', .int .u8 M.prio, .int .u8 M.ord, .int .u64 M.sg, .int .u64 M.so, .int .u64 M.eg, .int .u64 M.eo, .bool M.some_, .int .u64 M.code, .slice rA' M.reason.length rc', .int .u64 M.n, .int .u64 M.ver, .slice vA' M.vers.length vc'] a1 a2 b1 b2 := ⟨X3.out.m, X3.out.a, X3.out.b, X3.out.bel.drew⟩
  clear hh hl1 hl2 HW3 HMC X3 X2 E hmg hga0 hgb0 KA
  cases l1 with
  | false =>
    refine wp_region_held_drew (S := fun w' => AskBx w w' gm ga gb #[.int .u64 M.kind, .int .u64 M.id, .int .u64 M.alias_, .slice nA' M.name.length nc', .int .u8 M.prio, .int .u8 M.ord, .int .u64 M.sg, .int .u64 M.so, .int .u64 M.eg, .int .u64 M.eo, .bool M.some_, .int .u64 M.code, .slice rA' M.reason.length rc', .int .u64 M.n, .int .u64 M.ver, .slice vA' M.vers.length vc'] a1 a2 b1 b2) (by kernel_rfl) X4 (fun s0 => ?_)
    clear X4
    refine wpAnyH_take (i := 0) (oi := ⟨_, _, _, _, _, _⟩) rfl (by kernel_rfl) (by kernel_rfl) (by kernel_rfl) (fun _ _ _ h => h) (yieldsIf_load_mid (by rfl) 28 (.tmp 3) rfl gm 0 rfl [.int .u64 M.kind, .int .u64 M.id, .int .u64 M.alias_, .slice nA' M.name.length nc', .int .u8 M.prio, .int .u8 M.ord, .int .u64 M.sg, .int .u64 M.so, .int .u64 M.eg, .int .u64 M.eo, .bool M.some_, .int .u64 M.code, .slice rA' M.reason.length rc', .int .u64 M.n, .int .u64 M.ver, .slice vA' M.vers.length vc'] _ (fun w' hS => range_blk hS.m) Tryd.underlying28 rfl info_rmsg) s0 ?_
    simp only [Act.put, List.setIfInBounds_toArray, List.set_cons_zero, List.set_cons_succ]
    refine wpAnyH_take (i := 1) (oi := ⟨_, _, _, _, _, _⟩) rfl (by kernel_rfl) (by kernel_rfl) (by kernel_rfl) (fun _ _ _ h => h) (yieldsIf_load_mid (by rfl) 25 (.tmp 4) rfl ga 0 rfl [.int .u64 a1, .int .u64 a2] _ (fun w' hS => range_blk hS.a) Tryd.underlying25 rfl info_place) s0 ?_
    simp only [Act.put, List.setIfInBounds_toArray, List.set_cons_zero, List.set_cons_succ]
    refine wpAnyH_take (i := 3) (oi := ⟨_, _, _, _, _, _⟩) rfl (by kernel_rfl) (by kernel_rfl) (by kernel_rfl) (fun _ _ _ h => h) (yieldsIf_load_mid (by rfl) 28 (.tmp 3) rfl gm 0 rfl [.int .u64 M.kind, .int .u64 M.id, .int .u64 M.alias_, .slice nA' M.name.length nc', .int .u8 M.prio, .int .u8 M.ord, .int .u64 M.sg, .int .u64 M.so, .int .u64 M.eg, .int .u64 M.eo, .bool M.some_, .int .u64 M.code, .slice rA' M.reason.length rc', .int .u64 M.n, .int .u64 M.ver, .slice vA' M.vers.length vc'] _ (fun w' hS => range_blk hS.m) Tryd.underlying28 rfl info_rmsg) s0 ?_
    simp only [Act.put, List.setIfInBounds_toArray, List.set_cons_zero, List.set_cons_succ]
    refine wpAnyH_take (i := 4) (oi := ⟨_, _, _, _, _, _⟩) rfl (by kernel_rfl) (by kernel_rfl) (by kernel_rfl) (fun _ _ _ h => h) (yieldsIf_load_mid (by rfl) 25 (.tmp 4) rfl ga 0 rfl [.int .u64 a1, .int .u64 a2] _ (fun w' hS => range_blk hS.a) Tryd.underlying25 rfl info_place) s0 ?_
    simp only [Act.put, List.setIfInBounds_toArray, List.set_cons_zero, List.set_cons_succ]
    refine wpAnyH_ready (rs := [2]) (by kernel_rfl) (by simp) ?_
    refine AllReadyH.cons rfl (fun K hK => ?_) AllReadyH.nil
    go_simp
    refine (C1.out _ s0).mono ?_
    rintro e w1 ⟨rfl, q1⟩
    refine hK.out _ _ q1 (fun s1 => ?_)
    clear hK K s0 q1
    refine wpAnyH_ready (rs := [5]) (by kernel_rfl) (by simp) ?_
    refine AllReadyH.cons rfl (fun K hK => ?_) AllReadyH.nil
    go_simp
    refine (C2.out _ s1).mono ?_
    rintro e w2 ⟨rfl, q2⟩
    refine hK.out _ _ q2 (fun s2 => ?_)
    clear hK K s1 q2
    refine wpAnyH_take (i := 6) (oi := ⟨_, _, _, _, _, _⟩) (v := .bool true) rfl (by kernel_rfl) (by kernel_rfl) (by kernel_rfl) (fun _ _ _ h => h) (Or.inl ⟨by rfl, fun w' hS => by go_simp⟩) s2 ?_
    simp only [Act.put, List.setIfInBounds_toArray, List.set_cons_zero, List.set_cons_succ]
    refine wpAnyH_take (i := 7) (oi := ⟨_, _, _, _, _, _⟩) (v := .bool true) rfl (by kernel_rfl) (by kernel_rfl) (by kernel_rfl) (fun _ _ _ h => h) (Or.inl ⟨by rfl, fun w' hS => by go_simp⟩) s2 ?_
    simp only [Act.put, List.setIfInBounds_toArray, List.set_cons_zero, List.set_cons_succ]
    refine wpAnyH_take (i := 8) (oi := ⟨_, _, _, _, _, _⟩) rfl (by kernel_rfl) (by kernel_rfl) (by kernel_rfl) (fun _ _ _ h => h) (yieldsIf_load_mid (by rfl) 25 (.tmp 4) rfl ga 0 rfl [.int .u64 a1, .int .u64 a2] _ (fun w' hS => range_blk hS.a) Tryd.underlying25 rfl info_place) s2 ?_
    simp only [Act.put, List.setIfInBounds_toArray, List.set_cons_zero, List.set_cons_succ]
    refine wpAnyH_take (i := 9) (oi := ⟨_, _, _, _, _, _⟩) rfl (by kernel_rfl) (by kernel_rfl) (by kernel_rfl) (fun _ _ _ h => h) (yieldsIf_load_mid (by rfl) 25 (.tmp 5) rfl gb 0 rfl [.int .u64 b1, .int .u64 b2] _ (fun w' hS => range_blk hS.b) Tryd.underlying25 rfl info_place) s2 ?_
    simp only [Act.put, List.setIfInBounds_toArray, List.set_cons_zero, List.set_cons_succ]
    refine wpAnyH_take (i := 11) (oi := ⟨_, _, _, _, _, _⟩) rfl (by kernel_rfl) (by kernel_rfl) (by kernel_rfl) (fun _ _ _ h => h) (yieldsIf_load_mid (by rfl) 25 (.tmp 4) rfl ga 0 rfl [.int .u64 a1, .int .u64 a2] _ (fun w' hS => range_blk hS.a) Tryd.underlying25 rfl info_place) s2 ?_
    simp only [Act.put, List.setIfInBounds_toArray, List.set_cons_zero, List.set_cons_succ]
    refine wpAnyH_take (i := 12) (oi := ⟨_, _, _, _, _, _⟩) rfl (by kernel_rfl) (by kernel_rfl) (by kernel_rfl) (fun _ _ _ h => h) (yieldsIf_load_mid (by rfl) 25 (.tmp 5) rfl gb 0 rfl [.int .u64 b1, .int .u64 b2] _ (fun w' hS => range_blk hS.b) Tryd.underlying25 rfl info_place) s2 ?_
    simp only [Act.put, List.setIfInBounds_toArray, List.set_cons_zero, List.set_cons_succ]
    refine wpAnyH_ready (rs := [10]) (by kernel_rfl) (by simp) ?_
    refine AllReadyH.cons rfl (fun K hK => ?_) AllReadyH.nil
    go_simp
    refine (C3.out _ s2).mono ?_
    rintro e w3 ⟨rfl, q3⟩
    refine hK.out _ _ q3 (fun s3 => ?_)
    clear hK K s2 q3
    refine wpAnyH_ready (rs := [13]) (by kernel_rfl) (by simp) ?_
    refine AllReadyH.cons rfl (fun K hK => ?_) AllReadyH.nil
    go_simp
    refine (C4.out _ s3).mono ?_
    rintro e w4 ⟨rfl, q4⟩
    refine hK.out _ _ q4 (fun s4 => ?_)
    clear hK K s3 q4
    refine wpAnyH_take (i := 14) (oi := ⟨_, _, _, _, _, _⟩) (v := .bool true) rfl (by kernel_rfl) (by kernel_rfl) (by kernel_rfl) (fun _ _ _ h => h) (Or.inl ⟨by rfl, fun w' hS => by go_simp⟩) s4 ?_
    simp only [Act.put, List.setIfInBounds_toArray, List.set_cons_zero, List.set_cons_succ]
    refine wpAnyH_take (i := 15) (oi := ⟨_, _, _, _, _, _⟩) (v := .bool true) rfl (by kernel_rfl) (by kernel_rfl) (by kernel_rfl) (fun _ _ _ h => h) (Or.inl ⟨by rfl, fun w' hS => by go_simp⟩) s4 ?_
    simp only [Act.put, List.setIfInBounds_toArray, List.set_cons_zero, List.set_cons_succ]
    refine wpAnyH_take (i := 16) (oi := ⟨_, _, _, _, _, _⟩) (v := .bool true) rfl (by kernel_rfl) (by kernel_rfl) (by kernel_rfl) (fun _ _ _ h => h) (Or.inl ⟨by rfl, fun w' hS => by go_simp⟩) s4 ?_
    simp only [Act.put, List.setIfInBounds_toArray, List.set_cons_zero, List.set_cons_succ]
    refine wpAnyH_take (i := 17) (oi := ⟨_, _, _, _, _, _⟩) rfl (by kernel_rfl) (by kernel_rfl) (by kernel_rfl) (fun _ _ _ h => h) (yieldsIf_load_mid (by rfl) 25 (.tmp 4) rfl ga 0 rfl [.int .u64 a1, .int .u64 a2] _ (fun w' hS => range_blk hS.a) Tryd.underlying25 rfl info_place) s4 ?_
    simp only [Act.put, List.setIfInBounds_toArray, List.set_cons_zero, List.set_cons_succ]
    refine wpAnyH_take (i := 18) (oi := ⟨_, _, _, _, _, _⟩) rfl (by kernel_rfl) (by kernel_rfl) (by kernel_rfl) (fun _ _ _ h => h) (yieldsIf_load_mid (by rfl) 25 (.tmp 5) rfl gb 0 rfl [.int .u64 b1, .int .u64 b2] _ (fun w' hS => range_blk hS.b) Tryd.underlying25 rfl info_place) s4 ?_
    simp only [Act.put, List.setIfInBounds_toArray, List.set_cons_zero, List.set_cons_succ]
    refine wpAnyH_ready (rs := [19]) (by kernel_rfl) (by simp) ?_
    refine AllReadyH.cons rfl (fun K hK => ?_) AllReadyH.nil
    go_simp
    refine (C3.out _ s4).mono ?_
    rintro e w5 ⟨rfl, q5⟩
    refine hK.out _ _ q5 (fun s5 => ?_)
    clear hK K s4 q5
    refine wpAnyH_take (i := 20) (oi := ⟨_, _, _, _, _, _⟩) (v := .bool false) rfl (by kernel_rfl) (by kernel_rfl) (by kernel_rfl) (fun _ _ _ h => h) (Or.inl ⟨by rfl, fun w' hS => by go_simp⟩) s5 ?_
    simp only [Act.put, List.setIfInBounds_toArray, List.set_cons_zero, List.set_cons_succ]
    refine wpAnyH_take (i := 21) (oi := ⟨_, _, _, _, _, _⟩) (v := undef) rfl (by kernel_rfl) (by kernel_rfl) (by kernel_rfl) (fun _ _ _ h => h) (Or.inr ⟨by rfl, rfl⟩) s5 ?_
    simp only [Act.put, List.setIfInBounds_toArray, List.set_cons_zero, List.set_cons_succ]
    refine wpAnyH_take (i := 22) (oi := ⟨_, _, _, _, _, _⟩) (v := undef) rfl (by kernel_rfl) (by kernel_rfl) (by kernel_rfl) (fun _ _ _ h => h) (Or.inr ⟨by rfl, rfl⟩) s5 ?_
    simp only [Act.put, List.setIfInBounds_toArray, List.set_cons_zero, List.set_cons_succ]
    refine wpAnyH_ready (rs := [23]) (by kernel_rfl) (by simp) ?_
    refine AllReadyH.cons rfl (fun K hK => ?_) AllReadyH.nil
    rw [if_neg (c := Region.wanted _ _ = true) (by intro h; exact absurd (show false = true from h) (by decide))]
    simp only [List.getElem_toArray, List.getElem_cons_succ, List.getElem_cons_zero, Act.put, List.setIfInBounds_toArray, List.set_cons_succ, List.set_cons_zero]
    refine hK.out _ _ s5 (fun s6 => ?_)
    clear hK K s5
    refine wpAnyH_take (i := 24) (oi := ⟨_, _, _, _, _, _⟩) (v := .bool false) rfl (by kernel_rfl) (by kernel_rfl) (by kernel_rfl) (fun _ _ _ h => h) (Or.inl ⟨by rfl, fun w' hS => by go_simp⟩) s6 ?_
    simp only [Act.put, List.setIfInBounds_toArray, List.set_cons_zero, List.set_cons_succ]
    refine wpAnyH_take (i := 25) (oi := ⟨_, _, _, _, _, _⟩) (v := .bool true) rfl (by kernel_rfl) (by kernel_rfl) (by kernel_rfl) (fun _ _ _ h => h) (Or.inl ⟨by rfl, fun w' hS => by go_simp⟩) s6 ?_
    simp only [Act.put, List.setIfInBounds_toArray, List.set_cons_zero, List.set_cons_succ]
    refine wpAnyH_take (i := 26) (oi := ⟨_, _, _, _, _, _⟩) (v := .bool true) rfl (by kernel_rfl) (by kernel_rfl) (by kernel_rfl) (fun _ _ _ h => h) (Or.inl ⟨by rfl, fun w' hS => by go_simp⟩) s6 ?_
    simp only [Act.put, List.setIfInBounds_toArray, List.set_cons_zero, List.set_cons_succ]
    refine wpAnyH_take (i := 27) (oi := ⟨_, _, _, _, _, _⟩) (v := .bool true) rfl (by kernel_rfl) (by kernel_rfl) (by kernel_rfl) (fun _ _ _ h => h) (Or.inl ⟨by rfl, fun w' hS => by go_simp⟩) s6 ?_
    simp only [Act.put, List.setIfInBounds_toArray, List.set_cons_zero, List.set_cons_succ]
    refine wpAnyH_done (by kernel_rfl) ?_ _
    go_wp2_with fail
    go_ret
    exact ⟨rfl, s6.bel⟩
  | true =>
    cases l2 with
    | true => cases han
    | false =>
      refine wp_region_held_drew (S := fun w' => AskBx w w' gm ga gb #[.int .u64 M.kind, .int .u64 M.id, .int .u64 M.alias_, .slice nA' M.name.length nc', .int .u8 M.prio, .int .u8 M.ord, .int .u64 M.sg, .int .u64 M.so, .int .u64 M.eg, .int .u64 M.eo, .bool M.some_, .int .u64 M.code, .slice rA' M.reason.length rc', .int .u64 M.n, .int .u64 M.ver, .slice vA' M.vers.length vc'] a1 a2 b1 b2) (by kernel_rfl) X4 (fun s0 => ?_)
      clear X4
      refine wpAnyH_take (i := 0) (oi := ⟨_, _, _, _, _, _⟩) rfl (by kernel_rfl) (by kernel_rfl) (by kernel_rfl) (fun _ _ _ h => h) (yieldsIf_load_mid (by rfl) 28 (.tmp 3) rfl gm 0 rfl [.int .u64 M.kind, .int .u64 M.id, .int .u64 M.alias_, .slice nA' M.name.length nc', .int .u8 M.prio, .int .u8 M.ord, .int .u64 M.sg, .int .u64 M.so, .int .u64 M.eg, .int .u64 M.eo, .bool M.some_, .int .u64 M.code, .slice rA' M.reason.length rc', .int .u64 M.n, .int .u64 M.ver, .slice vA' M.vers.length vc'] _ (fun w' hS => range_blk hS.m) Tryd.underlying28 rfl info_rmsg) s0 ?_
      simp only [Act.put, List.setIfInBounds_toArray, List.set_cons_zero, List.set_cons_succ]
      refine wpAnyH_take (i := 1) (oi := ⟨_, _, _, _, _, _⟩) rfl (by kernel_rfl) (by kernel_rfl) (by kernel_rfl) (fun _ _ _ h => h) (yieldsIf_load_mid (by rfl) 25 (.tmp 4) rfl ga 0 rfl [.int .u64 a1, .int .u64 a2] _ (fun w' hS => range_blk hS.a) Tryd.underlying25 rfl info_place) s0 ?_
      simp only [Act.put, List.setIfInBounds_toArray, List.set_cons_zero, List.set_cons_succ]
      refine wpAnyH_take (i := 3) (oi := ⟨_, _, _, _, _, _⟩) rfl (by kernel_rfl) (by kernel_rfl) (by kernel_rfl) (fun _ _ _ h => h) (yieldsIf_load_mid (by rfl) 28 (.tmp 3) rfl gm 0 rfl [.int .u64 M.kind, .int .u64 M.id, .int .u64 M.alias_, .slice nA' M.name.length nc', .int .u8 M.prio, .int .u8 M.ord, .int .u64 M.sg, .int .u64 M.so, .int .u64 M.eg, .int .u64 M.eo, .bool M.some_, .int .u64 M.code, .slice rA' M.reason.length rc', .int .u64 M.n, .int .u64 M.ver, .slice vA' M.vers.length vc'] _ (fun w' hS => range_blk hS.m) Tryd.underlying28 rfl info_rmsg) s0 ?_
      simp only [Act.put, List.setIfInBounds_toArray, List.set_cons_zero, List.set_cons_succ]
      refine wpAnyH_take (i := 4) (oi := ⟨_, _, _, _, _, _⟩) rfl (by kernel_rfl) (by kernel_rfl) (by kernel_rfl) (fun _ _ _ h => h) (yieldsIf_load_mid (by rfl) 25 (.tmp 4) rfl ga 0 rfl [.int .u64 a1, .int .u64 a2] _ (fun w' hS => range_blk hS.a) Tryd.underlying25 rfl info_place) s0 ?_
      simp only [Act.put, List.setIfInBounds_toArray, List.set_cons_zero, List.set_cons_succ]
      refine wpAnyH_ready (rs := [2]) (by kernel_rfl) (by simp) ?_
      refine AllReadyH.cons rfl (fun K hK => ?_) AllReadyH.nil
      go_simp
      refine (C1.out _ s0).mono ?_
      rintro e w1 ⟨rfl, q1⟩
      refine hK.out _ _ q1 (fun s1 => ?_)
      clear hK K s0 q1
      refine wpAnyH_ready (rs := [5]) (by kernel_rfl) (by simp) ?_
      refine AllReadyH.cons rfl (fun K hK => ?_) AllReadyH.nil
      go_simp
      refine (C2.out _ s1).mono ?_
      rintro e w2 ⟨rfl, q2⟩
      refine hK.out _ _ q2 (fun s2 => ?_)
      clear hK K s1 q2
      refine wpAnyH_take (i := 6) (oi := ⟨_, _, _, _, _, _⟩) (v := .bool true) rfl (by kernel_rfl) (by kernel_rfl) (by kernel_rfl) (fun _ _ _ h => h) (Or.inl ⟨by rfl, fun w' hS => by go_simp⟩) s2 ?_
      simp only [Act.put, List.setIfInBounds_toArray, List.set_cons_zero, List.set_cons_succ]
      refine wpAnyH_take (i := 7) (oi := ⟨_, _, _, _, _, _⟩) (v := .bool true) rfl (by kernel_rfl) (by kernel_rfl) (by kernel_rfl) (fun _ _ _ h => h) (Or.inl ⟨by rfl, fun w' hS => by go_simp⟩) s2 ?_
      simp only [Act.put, List.setIfInBounds_toArray, List.set_cons_zero, List.set_cons_succ]
      refine wpAnyH_take (i := 8) (oi := ⟨_, _, _, _, _, _⟩) rfl (by kernel_rfl) (by kernel_rfl) (by kernel_rfl) (fun _ _ _ h => h) (yieldsIf_load_mid (by rfl) 25 (.tmp 4) rfl ga 0 rfl [.int .u64 a1, .int .u64 a2] _ (fun w' hS => range_blk hS.a) Tryd.underlying25 rfl info_place) s2 ?_
      simp only [Act.put, List.setIfInBounds_toArray, List.set_cons_zero, List.set_cons_succ]
      refine wpAnyH_take (i := 9) (oi := ⟨_, _, _, _, _, _⟩) rfl (by kernel_rfl) (by kernel_rfl) (by kernel_rfl) (fun _ _ _ h => h) (yieldsIf_load_mid (by rfl) 25 (.tmp 5) rfl gb 0 rfl [.int .u64 b1, .int .u64 b2] _ (fun w' hS => range_blk hS.b) Tryd.underlying25 rfl info_place) s2 ?_
      simp only [Act.put, List.setIfInBounds_toArray, List.set_cons_zero, List.set_cons_succ]
      refine wpAnyH_take (i := 11) (oi := ⟨_, _, _, _, _, _⟩) rfl (by kernel_rfl) (by kernel_rfl) (by kernel_rfl) (fun _ _ _ h => h) (yieldsIf_load_mid (by rfl) 25 (.tmp 4) rfl ga 0 rfl [.int .u64 a1, .int .u64 a2] _ (fun w' hS => range_blk hS.a) Tryd.underlying25 rfl info_place) s2 ?_
      simp only [Act.put, List.setIfInBounds_toArray, List.set_cons_zero, List.set_cons_succ]
      refine wpAnyH_take (i := 12) (oi := ⟨_, _, _, _, _, _⟩) rfl (by kernel_rfl) (by kernel_rfl) (by kernel_rfl) (fun _ _ _ h => h) (yieldsIf_load_mid (by rfl) 25 (.tmp 5) rfl gb 0 rfl [.int .u64 b1, .int .u64 b2] _ (fun w' hS => range_blk hS.b) Tryd.underlying25 rfl info_place) s2 ?_
      simp only [Act.put, List.setIfInBounds_toArray, List.set_cons_zero, List.set_cons_succ]
      refine wpAnyH_ready (rs := [10]) (by kernel_rfl) (by simp) ?_
      refine AllReadyH.cons rfl (fun K hK => ?_) AllReadyH.nil
      go_simp
      refine (C3.out _ s2).mono ?_
      rintro e w3 ⟨rfl, q3⟩
      refine hK.out _ _ q3 (fun s3 => ?_)
      clear hK K s2 q3
      refine wpAnyH_ready (rs := [13]) (by kernel_rfl) (by simp) ?_
      refine AllReadyH.cons rfl (fun K hK => ?_) AllReadyH.nil
      go_simp
      refine (C4.out _ s3).mono ?_
      rintro e w4 ⟨rfl, q4⟩
      refine hK.out _ _ q4 (fun s4 => ?_)
      clear hK K s3 q4
      refine wpAnyH_take (i := 14) (oi := ⟨_, _, _, _, _, _⟩) (v := .bool true) rfl (by kernel_rfl) (by kernel_rfl) (by kernel_rfl) (fun _ _ _ h => h) (Or.inl ⟨by rfl, fun w' hS => by go_simp⟩) s4 ?_
      simp only [Act.put, List.setIfInBounds_toArray, List.set_cons_zero, List.set_cons_succ]
      refine wpAnyH_take (i := 15) (oi := ⟨_, _, _, _, _, _⟩) (v := .bool true) rfl (by kernel_rfl) (by kernel_rfl) (by kernel_rfl) (fun _ _ _ h => h) (Or.inl ⟨by rfl, fun w' hS => by go_simp⟩) s4 ?_
      simp only [Act.put, List.setIfInBounds_toArray, List.set_cons_zero, List.set_cons_succ]
      refine wpAnyH_take (i := 16) (oi := ⟨_, _, _, _, _, _⟩) (v := .bool true) rfl (by kernel_rfl) (by kernel_rfl) (by kernel_rfl) (fun _ _ _ h => h) (Or.inl ⟨by rfl, fun w' hS => by go_simp⟩) s4 ?_
      simp only [Act.put, List.setIfInBounds_toArray, List.set_cons_zero, List.set_cons_succ]
      refine wpAnyH_take (i := 17) (oi := ⟨_, _, _, _, _, _⟩) rfl (by kernel_rfl) (by kernel_rfl) (by kernel_rfl) (fun _ _ _ h => h) (yieldsIf_load_mid (by rfl) 25 (.tmp 4) rfl ga 0 rfl [.int .u64 a1, .int .u64 a2] _ (fun w' hS => range_blk hS.a) Tryd.underlying25 rfl info_place) s4 ?_
      simp only [Act.put, List.setIfInBounds_toArray, List.set_cons_zero, List.set_cons_succ]
      refine wpAnyH_take (i := 18) (oi := ⟨_, _, _, _, _, _⟩) rfl (by kernel_rfl) (by kernel_rfl) (by kernel_rfl) (fun _ _ _ h => h) (yieldsIf_load_mid (by rfl) 25 (.tmp 5) rfl gb 0 rfl [.int .u64 b1, .int .u64 b2] _ (fun w' hS => range_blk hS.b) Tryd.underlying25 rfl info_place) s4 ?_
      simp only [Act.put, List.setIfInBounds_toArray, List.set_cons_zero, List.set_cons_succ]
      refine wpAnyH_ready (rs := [19]) (by kernel_rfl) (by simp) ?_
      refine AllReadyH.cons rfl (fun K hK => ?_) AllReadyH.nil
      go_simp
      refine (C3.out _ s4).mono ?_
      rintro e w5 ⟨rfl, q5⟩
      refine hK.out _ _ q5 (fun s5 => ?_)
      clear hK K s4 q5
      refine wpAnyH_take (i := 20) (oi := ⟨_, _, _, _, _, _⟩) (v := .bool true) rfl (by kernel_rfl) (by kernel_rfl) (by kernel_rfl) (fun _ _ _ h => h) (Or.inl ⟨by rfl, fun w' hS => by go_simp⟩) s5 ?_
      simp only [Act.put, List.setIfInBounds_toArray, List.set_cons_zero, List.set_cons_succ]
      refine wpAnyH_take (i := 21) (oi := ⟨_, _, _, _, _, _⟩) rfl (by kernel_rfl) (by kernel_rfl) (by kernel_rfl) (fun _ _ _ h => h) (yieldsIf_load_mid (by rfl) 25 (.tmp 5) rfl gb 0 rfl [.int .u64 b1, .int .u64 b2] _ (fun w' hS => range_blk hS.b) Tryd.underlying25 rfl info_place) s5 ?_
      simp only [Act.put, List.setIfInBounds_toArray, List.set_cons_zero, List.set_cons_succ]
      refine wpAnyH_take (i := 22) (oi := ⟨_, _, _, _, _, _⟩) rfl (by kernel_rfl) (by kernel_rfl) (by kernel_rfl) (fun _ _ _ h => h) (yieldsIf_load_mid (by rfl) 25 (.tmp 4) rfl ga 0 rfl [.int .u64 a1, .int .u64 a2] _ (fun w' hS => range_blk hS.a) Tryd.underlying25 rfl info_place) s5 ?_
      simp only [Act.put, List.setIfInBounds_toArray, List.set_cons_zero, List.set_cons_succ]
      refine wpAnyH_ready (rs := [23]) (by kernel_rfl) (by simp) ?_
      refine AllReadyH.cons rfl (fun K hK => ?_) AllReadyH.nil
      go_simp
      refine (C5.out _ s5).mono ?_
      rintro e w6 ⟨rfl, q6⟩
      refine hK.out _ _ q6 (fun s6 => ?_)
      clear hK K s5 q6
      refine wpAnyH_take (i := 24) (oi := ⟨_, _, _, _, _, _⟩) (v := .bool false) rfl (by kernel_rfl) (by kernel_rfl) (by kernel_rfl) (fun _ _ _ h => h) (Or.inl ⟨by rfl, fun w' hS => by go_simp⟩) s6 ?_
      simp only [Act.put, List.setIfInBounds_toArray, List.set_cons_zero, List.set_cons_succ]
      refine wpAnyH_take (i := 25) (oi := ⟨_, _, _, _, _, _⟩) (v := .bool true) rfl (by kernel_rfl) (by kernel_rfl) (by kernel_rfl) (fun _ _ _ h => h) (Or.inl ⟨by rfl, fun w' hS => by go_simp⟩) s6 ?_
      simp only [Act.put, List.setIfInBounds_toArray, List.set_cons_zero, List.set_cons_succ]
      refine wpAnyH_take (i := 26) (oi := ⟨_, _, _, _, _, _⟩) (v := .bool true) rfl (by kernel_rfl) (by kernel_rfl) (by kernel_rfl) (fun _ _ _ h => h) (Or.inl ⟨by rfl, fun w' hS => by go_simp⟩) s6 ?_
      simp only [Act.put, List.setIfInBounds_toArray, List.set_cons_zero, List.set_cons_succ]
      refine wpAnyH_take (i := 27) (oi := ⟨_, _, _, _, _, _⟩) (v := .bool true) rfl (by kernel_rfl) (by kernel_rfl) (by kernel_rfl) (fun _ _ _ h => h) (Or.inl ⟨by rfl, fun w' hS => by go_simp⟩) s6 ?_
      simp only [Act.put, List.setIfInBounds_toArray, List.set_cons_zero, List.set_cons_succ]
      refine wpAnyH_done (by kernel_rfl) ?_ _
      go_wp2_with fail
      go_ret
      exact ⟨rfl, s6.bel⟩
end Go.Proofs.YtmicehfofmjcjaaDoor
