/-
  TalkNil (made by mkTalkO.py).
-/
import Derived.Test.YtdcjnkakibeigaaDoorTJA
import Derived.Test.YtdcjnkakibeigaaDoorWordV
import Derived.Test.YtdcjnkakibeigaaDoorOpenMsg
namespace Go.Proofs.YtdcjnkakibeigaaDoor
open Go.RowKit
set_option linter.unusedVariables false
set_option linter.unusedSimpArgs false
theorem results_row_tmpO {P : Program} {fn : Func} {p u : Tmp} {ty : TypeId} (h : fn.results = #[.cell p ty, .tmp u]) (tmps : Array Value) (w : World) (g : Nat) (t : TypeId) (cs : Array Value) (fr : Nat × Nat) (d : TypeDesc)
    (hp : tmps.getD p undef = .pointer (some ⟨g, 0, none⟩)) (hg : w.heap[g]? = some (.cells cs t fr))
    (hu : P.underlying ty = some d) (hd : (match d with | .struct _ | .array _ _ => true | _ => false) = true) (hi : (P.info? ty).map (·.size) = some cs.size) :
    (results fn tmps).run P w = .ok (.tuple #[.agg cs, tmps.getD u undef]) w := by
  rw [results_cell_tmp h, hp]
  simp only [asAddr, Sem.run_pure, Result.andThen_ok, run_loadVar_row w g t ty cs fr d hg hu hd hi]
theorem info_askO : (Tryd.prog.info? 37).map (·.size) = some 17 := by kernel_rfl
set_option maxRecDepth 20000 in
set_option maxHeartbeats 1600000 in
theorem Say_nil (cs : Array Value) (w : World) : Calls Tryd.prog 8 #[.pointer none, .agg cs] w fun r w' => r = .returned (.tuple #[.agg #[.int .u64 0, .int .u64 0, .int .u64 0, .slice none 0 0, .int .u8 0, .int .u8 0, .int .u64 0, .int .u64 0, .int .u64 0, .int .u64 0, .bool false, .int .u64 0, .slice none 0 0, .int .u64 0, .int .u64 0, .slice none 0 0], .int .i64 6]) ∧ Below w.heap.size w w' := by
  have K2 : Blk ((w.alloc (.cells cs 31)).alloc (.cells #[.int .u64 0, .int .u64 0, .int .u64 0, .slice none 0 0, .int .u8 0, .int .u8 0, .int .u64 0, .int .u64 0, .int .u64 0, .int .u64 0, .bool false, .int .u64 0, .slice none 0 0, .int .u64 0, .int .u64 0, .slice none 0 0] 31)) (w.heap.size + 1) 31 #[.int .u64 0, .int .u64 0, .int .u64 0, .slice none 0 0, .int .u8 0, .int .u8 0, .int .u64 0, .int .u64 0, .int .u64 0, .int .u64 0, .bool false, .int .u64 0, .slice none 0 0, .int .u64 0, .int .u64 0, .slice none 0 0] := by
    have := Blk.new (w.alloc (.cells cs 31)) 31 #[.int .u64 0, .int .u64 0, .int .u64 0, .slice none 0 0, .int .u8 0, .int .u8 0, .int .u64 0, .int .u64 0, .int .u64 0, .int .u64 0, .bool false, .int .u64 0, .slice none 0 0, .int .u64 0, .int .u64 0, .slice none 0 0]
    simpa using this
  have B2 : Below w.heap.size w ((w.alloc (.cells cs 31)).alloc (.cells #[.int .u64 0, .int .u64 0, .int .u64 0, .slice none 0 0, .int .u8 0, .int .u8 0, .int .u64 0, .int .u64 0, .int .u64 0, .int .u64 0, .bool false, .int .u64 0, .slice none 0 0, .int .u64 0, .int .u64 0, .slice none 0 0] 31)) := ((Below.refl _ _).alloc (Nat.le_refl _) _).alloc (by simp) _
  go_enter Tryd.func8, Tryd.ntmps8
  go_wp2_with (refine wpList_store_row rfl 31 (.tmp 4) (.tmp 9) rfl (w.heap.size + 1) _ rfl rfl 31 _ K2 info_msgL rfl (by simp [Value.oneCell']) ?_)
  refine bodyPost_ret (results_row_tmpO rfl _ _ (w.heap.size + 1) 31 #[.int .u64 0, .int .u64 0, .int .u64 0, .slice none 0 0, .int .u8 0, .int .u8 0, .int .u64 0, .int .u64 0, .int .u64 0, .int .u64 0, .bool false, .int .u64 0, .slice none 0 0, .int .u64 0, .int .u64 0, .slice none 0 0] (0, 0) _ rfl (setRowT K2 _) Tryd.underlying31 rfl (by kernel_rfl)) rfl ⟨rfl, ?_⟩
  exact below_gsL B2 (only_setRowT _ _ _) (by omega) B2.size
set_option maxRecDepth 20000 in
set_option maxHeartbeats 1600000 in
theorem Find_nil (id : Int) (w : World) : Calls Tryd.prog 10 #[.pointer none, .int .u64 id] w fun r w' => r = .returned (.tuple #[.agg #[.int .u64 0, .int .u64 0, .int .u64 0, .slice none 0 0, .int .u8 0, .int .u8 0, .int .u64 0, .int .u64 0, .int .u64 0, .int .u64 0, .bool false, .int .u64 0, .slice none 0 0, .int .u64 0, .int .u64 0, .slice none 0 0, .int .i64 0], .bool false]) ∧ Below w.heap.size w w' := by
  have K2 := Blk.new w 37 #[.int .u64 0, .int .u64 0, .int .u64 0, .slice none 0 0, .int .u8 0, .int .u8 0, .int .u64 0, .int .u64 0, .int .u64 0, .int .u64 0, .bool false, .int .u64 0, .slice none 0 0, .int .u64 0, .int .u64 0, .slice none 0 0, .int .i64 0]
  have B2 : Below w.heap.size w (w.alloc (.cells #[.int .u64 0, .int .u64 0, .int .u64 0, .slice none 0 0, .int .u8 0, .int .u8 0, .int .u64 0, .int .u64 0, .int .u64 0, .int .u64 0, .bool false, .int .u64 0, .slice none 0 0, .int .u64 0, .int .u64 0, .slice none 0 0, .int .i64 0] 37)) := (Below.refl _ _).alloc (Nat.le_refl _) _
  go_enter Tryd.func10, Tryd.ntmps10
  go_wp2_with (refine wpList_store_row rfl 37 (.tmp 4) (.tmp 9) rfl w.heap.size _ rfl rfl 37 _ K2 info_askO rfl (by simp [Value.oneCell']) ?_)
  refine bodyPost_ret (results_row_tmpO rfl _ _ w.heap.size 37 #[.int .u64 0, .int .u64 0, .int .u64 0, .slice none 0 0, .int .u8 0, .int .u8 0, .int .u64 0, .int .u64 0, .int .u64 0, .int .u64 0, .bool false, .int .u64 0, .slice none 0 0, .int .u64 0, .int .u64 0, .slice none 0 0, .int .i64 0] (0, 0) _ rfl (setRowT K2 _) Tryd.underlying37 rfl (by kernel_rfl)) rfl ⟨rfl, ?_⟩
  exact below_gsL B2 (only_setRowT _ _ _) (Nat.le_refl _) B2.size
def mvNil : MV := ⟨0, 0, 0, [], 0, 0, 0, 0, 0, 0, false, 0, [], 0, 0, []⟩
theorem same0 : sameMB mvNil mvNil = true := by decide +kernel
set_option maxRecDepth 20000 in
set_option maxHeartbeats 3200000 in
theorem nil17_walk (x : RM) (id0 : Int) (w : World) (ht : Tab w) (hx : RMOk w x) (hid : (Lit.int .u64 id0).wf = true) :
    Calls Tryd.prog 3 #[.agg x.val, .int .u64 id0] w fun r w' => r = .returned (.bool true) ∧ Below w.heap.size w w' := by
  obtain ⟨W, hW⟩ : ∃ W, W = w.alloc (.cells x.val 28) := ⟨_, rfl⟩
  obtain ⟨gm, hgm⟩ : ∃ g, g = w.heap.size := ⟨_, rfl⟩
  have k0 : Blk W gm 28 x.val := by rw [hW, hgm]; exact Blk.new _ _ _
  have b0 : Below w.heap.size w W := by rw [hW]; exact (Below.refl _ _).alloc (Nat.le_refl _) _
  have AW := Lib.hid (awake17_any W (ht.below b0))
  have FW := Lib.hid (fun W' (h : Below w.heap.size w W') => (fewW_any x W' (show RMOk W' x from ⟨hx.kind, hx.id, hx.alias_, hx.sg, hx.so, hx.eg, hx.eo, hx.code, hx.n, hx.ver, hx.prio, hx.ord, ⟨⟨hx.nm.1.rd.below h, hx.nm.1.le, hx.nm.1.max, hx.nm.1.nil⟩, hx.nm.2⟩, ⟨⟨hx.rs.1.rd.below h, hx.rs.1.le, hx.rs.1.max, hx.rs.1.nil⟩, hx.rs.2⟩, ⟨hx.vs.rd.below h, hx.vs.ok, hx.vs.le, hx.vs.max, hx.vs.nil⟩⟩)).mono fun r w' (q : FewTo W' w' _ r) => (show (∃ mc : Array Value, r = .returned (.agg mc)) ∧ Below W'.heap.size W' w' from ⟨by obtain ⟨_, _, _, _, _, _, e, _⟩ := q.ok; exact ⟨_, e⟩, q.bel⟩))
  have SM := Lib.hid (fun W' => (sameW_any mvNil mvNil none 0 none 0 none 0 none 0 none 0 none 0 W' reads_noneL reads_noneL reads_noneL reads_noneL reads_noneL reads_noneL Bytes.nil Bytes.nil Bytes.nil Bytes.nil (by simp [mvNil]) (by simp [mvNil])))
  rw [same0] at SM
  unfold mvC mvNil at SM
  simp only [List.length_nil] at SM
  have K0 := Lib.hid k0
  have B0 := Lib.hid b0
  obtain ⟨⟨kind, id, alias_, name, prio, ord, sg, so, eg, eo, some_, code, reason, n, ver, vers⟩, nA, nc, rA, rc, vA, vc⟩ := x
  unfold RM.val mvC at K0 hW FW ⊢
  simp only at K0 hW FW ⊢
  have HW := Lib.hid hW
  have HG := Lib.hid hgm
  clear hW hx ht k0 b0 hgm
  go_enter Tryd.func3, Tryd.ntmps3
  go_upto_region 1 with (fail)
  rw [← HW.out, ← HG.out]
  clear HW
  go_wp2_with fail
  refine AW.out.mono ?_
  rintro e w1 ⟨rfl, b1⟩
  have K1 := Lib.hid (K0.out.below b1 K0.out.lt)
  have B1 := Lib.hid (B0.out.trans (b1.mono B0.out.size))
  clear b1 K0 B0 AW
  have c0 := K1.out.cell 0
  have c1 := K1.out.cell 1
  have c2 := K1.out.cell 2
  have c3 := K1.out.cell 3
  have c4 := K1.out.cell 4
  have c5 := K1.out.cell 5
  have c6 := K1.out.cell 6
  have c7 := K1.out.cell 7
  have c8 := K1.out.cell 8
  have c9 := K1.out.cell 9
  have c10 := K1.out.cell 10
  have c11 := K1.out.cell 11
  have c12 := K1.out.cell 12
  have c13 := K1.out.cell 13
  have c14 := K1.out.cell 14
  have c15 := K1.out.cell 15
  simp only [List.getElem?_toArray, List.getElem?_cons_zero, List.getElem?_cons_succ] at c0 c1 c2 c3 c4 c5 c6 c7 c8 c9 c10 c11 c12 c13 c14 c15
  have zc := K1.out.lt
  go_wp2_with fail
  refine (FW.out w1 B1.out).mono ?_
  rintro e w2 ⟨⟨mc, rfl⟩, b2⟩
  have K2 := Lib.hid (K1.out.below b2 K1.out.lt)
  have B2 := Lib.hid (B1.out.trans (b2.mono B1.out.size))
  clear b2 K1 B1 c0 c1 c2 c3 c4 c5 c6 c7 c8 c9 c10 c11 c12 c13 c14 c15 zc
  go_wp2_with fail
  refine (Say_nil mc w2).mono ?_
  rintro e w3 ⟨rfl, b3⟩
  have K3 := Lib.hid (K2.out.below b3 K2.out.lt)
  have B3 := Lib.hid (B2.out.trans (b3.mono B2.out.size))
  clear b3 K2 B2
  have q3 := Blk.new w3 31 #[.int .u64 0, .int .u64 0, .int .u64 0, .slice none 0 0, .int .u8 0, .int .u8 0, .int .u64 0, .int .u64 0, .int .u64 0, .int .u64 0, .bool false, .int .u64 0, .slice none 0 0, .int .u64 0, .int .u64 0, .slice none 0 0]
  go_upto_region 5 with (refine wpList_store_row rfl 31 (.tmp 6) (.tmp 17) rfl w3.heap.size _ rfl rfl 31 _ q3 info_msgL rfl (by simp [Value.oneCell']) ?_)
  obtain ⟨w4, hw4⟩ : ∃ v, v = (w3.alloc (.cells #[.int .u64 0, .int .u64 0, .int .u64 0, .slice none 0 0, .int .u8 0, .int .u8 0, .int .u64 0, .int .u64 0, .int .u64 0, .int .u64 0, .bool false, .int .u64 0, .slice none 0 0, .int .u64 0, .int .u64 0, .slice none 0 0] 31)).setRow w3.heap.size #[.int .u64 0, .int .u64 0, .int .u64 0, .slice none 0 0, .int .u8 0, .int .u8 0, .int .u64 0, .int .u64 0, .int .u64 0, .int .u64 0, .bool false, .int .u64 0, .slice none 0 0, .int .u64 0, .int .u64 0, .slice none 0 0] := ⟨_, rfl⟩
  obtain ⟨g6, hg6⟩ : ∃ g, g = w3.heap.size := ⟨_, rfl⟩
  have k4 : Blk w4 g6 31 #[.int .u64 0, .int .u64 0, .int .u64 0, .slice none 0 0, .int .u8 0, .int .u8 0, .int .u64 0, .int .u64 0, .int .u64 0, .int .u64 0, .bool false, .int .u64 0, .slice none 0 0, .int .u64 0, .int .u64 0, .slice none 0 0] := by rw [hw4, hg6]; exact setRowT q3 _
  have b34 : Below w3.heap.size w3 w4 := by rw [hw4]; exact below_gsL ((Below.refl _ _).alloc (Nat.le_refl _) _) (only_setRowT _ _ _) (Nat.le_refl _) (by simp)
  have K4 := Lib.hid (K3.out.below b34 K3.out.lt)
  have B4 := Lib.hid (B3.out.trans (b34.mono B3.out.size))
  have Q4 := Lib.hid k4
  rw [← hw4, ← hg6]
  clear q3 hw4 hg6 k4 b34 K3 B3
  go_wp2_with fail
  refine (Find_nil id0 w4).mono ?_
  rintro e w5 ⟨rfl, b5⟩
  have K5 := Lib.hid (K4.out.below b5 K4.out.lt)
  have B5 := Lib.hid (B4.out.trans (b5.mono B4.out.size))
  have Q5 := Lib.hid (Q4.out.below b5 Q4.out.lt)
  clear b5 K4 B4 Q4
  have q5 := Blk.new w5 37 #[.int .u64 0, .int .u64 0, .int .u64 0, .slice none 0 0, .int .u8 0, .int .u8 0, .int .u64 0, .int .u64 0, .int .u64 0, .int .u64 0, .bool false, .int .u64 0, .slice none 0 0, .int .u64 0, .int .u64 0, .slice none 0 0, .int .i64 0]
  go_upto_region 6 with (refine wpList_store_row rfl 37 (.tmp 8) (.tmp 23) rfl w5.heap.size _ rfl rfl 37 _ q5 info_askO rfl (by simp [Value.oneCell']) ?_)
  obtain ⟨w6, hw6⟩ : ∃ v, v = (w5.alloc (.cells #[.int .u64 0, .int .u64 0, .int .u64 0, .slice none 0 0, .int .u8 0, .int .u8 0, .int .u64 0, .int .u64 0, .int .u64 0, .int .u64 0, .bool false, .int .u64 0, .slice none 0 0, .int .u64 0, .int .u64 0, .slice none 0 0, .int .i64 0] 37)).setRow w5.heap.size #[.int .u64 0, .int .u64 0, .int .u64 0, .slice none 0 0, .int .u8 0, .int .u8 0, .int .u64 0, .int .u64 0, .int .u64 0, .int .u64 0, .bool false, .int .u64 0, .slice none 0 0, .int .u64 0, .int .u64 0, .slice none 0 0, .int .i64 0] := ⟨_, rfl⟩
  have b56 : Below w5.heap.size w5 w6 := by rw [hw6]; exact below_gsL ((Below.refl _ _).alloc (Nat.le_refl _) _) (only_setRowT _ _ _) (Nat.le_refl _) (by simp)
  have K6 := Lib.hid (K5.out.below b56 K5.out.lt)
  have B6 := Lib.hid (B5.out.trans (b56.mono B5.out.size))
  have Q6 := Lib.hid (Q5.out.below b56 Q5.out.lt)
  rw [← hw6]
  clear q5 hw6 b56 K5 B5 Q5
  have c0 := K6.out.cell 0
  have c1 := K6.out.cell 1
  have c2 := K6.out.cell 2
  have c3 := K6.out.cell 3
  have c4 := K6.out.cell 4
  have c5 := K6.out.cell 5
  have c6 := K6.out.cell 6
  have c7 := K6.out.cell 7
  have c8 := K6.out.cell 8
  have c9 := K6.out.cell 9
  have c10 := K6.out.cell 10
  have c11 := K6.out.cell 11
  have c12 := K6.out.cell 12
  have c13 := K6.out.cell 13
  have c14 := K6.out.cell 14
  have c15 := K6.out.cell 15
  simp only [List.getElem?_toArray, List.getElem?_cons_zero, List.getElem?_cons_succ] at c0 c1 c2 c3 c4 c5 c6 c7 c8 c9 c10 c11 c12 c13 c14 c15
  have zc := K6.out.lt
  go_wp2_with fail
  refine (FW.out w6 B6.out).mono ?_
  rintro e w7 ⟨⟨mc2, rfl⟩, b7⟩
  have B7 := Lib.hid (B6.out.trans (b7.mono B6.out.size))
  have Q7 := Lib.hid (Q6.out.below b7 Q6.out.lt)
  clear b7 K6 B6 Q6 c0 c1 c2 c3 c4 c5 c6 c7 c8 c9 c10 c11 c12 c13 c14 c15 zc FW
  go_wp2_with fail
  refine (Hear_nil mc2 w7).mono ?_
  rintro e w8 ⟨rfl, b8⟩
  have B8 := Lib.hid (B7.out.trans (b8.mono B7.out.size))
  have Q8 := Lib.hid (Q7.out.below b8 Q7.out.lt)
  clear b8 B7 Q7
  have q0 := Q8.out.cell 0
  have q1 := Q8.out.cell 1
  have q2 := Q8.out.cell 2
  have q3 := Q8.out.cell 3
  have q4 := Q8.out.cell 4
  have q5 := Q8.out.cell 5
  have q6 := Q8.out.cell 6
  have q7 := Q8.out.cell 7
  have q8 := Q8.out.cell 8
  have q9 := Q8.out.cell 9
  have q10 := Q8.out.cell 10
  have q11 := Q8.out.cell 11
  have q12 := Q8.out.cell 12
  have q13 := Q8.out.cell 13
  have q14 := Q8.out.cell 14
  have q15 := Q8.out.cell 15
  simp only [List.getElem?_toArray, List.getElem?_cons_zero, List.getElem?_cons_succ] at q0 q1 q2 q3 q4 q5 q6 q7 q8 q9 q10 q11 q12 q13 q14 q15
  have zq := Q8.out.lt
  go_wp2_with fail
  refine (SM.out w8).mono ?_
  rintro e w9 ⟨rfl, b9⟩
  have B9 := Lib.hid (B8.out.trans (b9.mono B8.out.size))
  clear b9 B8 Q8 q0 q1 q2 q3 q4 q5 q6 q7 q8 q9 q10 q11 q12 q13 q14 q15 zq SM
  go_wp2_with fail
  refine (Out_nil w9).mono ?_
  rintro e w10 ⟨rfl, rfl⟩
  go_wp2_with fail
  refine (Finish_nil id0 true w9).mono ?_
  rintro e w10 ⟨rfl, rfl⟩
  go_wp2_with fail
  refine (Asks_nil true w9).mono ?_
  rintro e w10 ⟨rfl, rfl⟩
  go_wp2_with fail
  refine (Up_nil w9).mono ?_
  rintro e w10 ⟨rfl, rfl⟩
  go_wp2_with fail
  refine (Code_nil w9).mono ?_
  rintro e w10 ⟨rfl, rfl⟩
  go_wp2_with fail
  go_ret
  exact ⟨rfl, B9.out⟩
end Go.Proofs.YtdcjnkakibeigaaDoor
