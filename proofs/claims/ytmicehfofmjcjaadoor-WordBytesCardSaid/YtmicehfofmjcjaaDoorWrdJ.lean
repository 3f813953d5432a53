/-
  WordCuts.
-/
import Derived.Test.YtmicehfofmjcjaaDoorWrdG
import Derived.Test.YtmicehfofmjcjaaDoorWordR
import Derived.Test.YtmicehfofmjcjaaDoorWordS
import Derived.Deep.DeepCutAuto
namespace Go.Proofs.YtmicehfofmjcjaaDoor
open Go.RowKit
set_option linter.unusedVariables false
set_option linter.unusedSimpArgs false
theorem RMOk.below {w w' : World} {x : RM} (h : RMOk w x) (hb : Below w.heap.size w w') : RMOk w' x :=
  ⟨h.kind, h.id, h.alias_, h.sg, h.so, h.eg, h.eo, h.code, h.n, h.ver, h.prio, h.ord, ⟨⟨h.nm.1.rd.below hb, h.nm.1.le, h.nm.1.max, h.nm.1.nil⟩, h.nm.2⟩, ⟨⟨h.rs.1.rd.below hb, h.rs.1.le, h.rs.1.max, h.rs.1.nil⟩, h.rs.2⟩, ⟨h.vs.rd.below hb, h.vs.ok, h.vs.le, h.vs.max, h.vs.nil⟩⟩
theorem RMOk.pos {w : World} {x : RM} (h : RMOk w x) : ∀ y ∈ numsM (cutM x.m), 0 ≤ y := by
  intro y hy
  unfold numsM cutM at hy
  simp only [List.mem_append, List.mem_cons, List.not_mem_nil, or_false] at hy
  rcases hy with (rfl | rfl | rfl | rfl | rfl | rfl | rfl | rfl | rfl) | hy
  · exact h.id.1
  · exact h.alias_.1
  · exact h.code.1
  · exact h.n.1
  · exact h.ver.1
  · exact h.sg.1
  · exact h.so.1
  · exact h.eg.1
  · exact h.eo.1
  · exact (wf_u64 (h.vs.ok y (List.mem_of_mem_take hy))).1
theorem cutM_lens (m : MV) : (cutM m).name.length ≤ 40 ∧ (cutM m).reason.length ≤ 80 ∧ (cutM m).vers.length ≤ 12 := by
  unfold cutM
  simp only [List.length_take]
  omega
/-- What a message that came in needs, to be written by the reference. -/
theorem refB_of {w w2 : World} {x : RM} (hx : RMOk w x) {nA rA vA : Option Addr} {nc rc vc base : Nat} (h1 : Own w2 base nA nc (cutM x.m).name) (h2 : Own w2 base rA rc (cutM x.m).reason) (h3 : OwnU w2 base vA vc (cutM x.m).vers) :
    Calls Tryd.prog 12 #[.agg (mvC (cutM x.m) nA nc rA rc vA vc)] w2 fun r w' => RBytesTo w2 w' (cutM x.m) r :=
  have hl := cutM_lens x.m
  refBytesW_any (cutM x.m) nA nc rA rc vA vc w2 (Rd.of_own h1) (Rd.of_own h2) (OwnV.reads h3) (fun y hy => hx.nm.2 y (List.mem_of_mem_take hy)) (fun y hy => hx.rs.2 y (List.mem_of_mem_take hy)) (by omega) (by omega) hl.2.2
    (fun h => inM_of (by rw [← right_valid]; exact h) hx.pos)
theorem encM_len {m : MV} (h : GoodV m) (hk : knW m.kind = true) : 3 ≤ (encM m).length ∧ (encM m).length ≤ 14000 := by
  have := encR_len (foW m.kind) h 13 (Nat.le_refl _)
  unfold encM
  rw [venc_kind hk]
  simp only [List.length_append, List.length_cons, List.length_nil]
  omega
/-- FewTo, the message named. -/
structure FewTo2 (w w' : World) (M : MV) (r : Ending) : Prop where
  ok : ∃ nA nc rA rc vA vc, r = .returned (.agg (mvC M nA nc rA rc vA vc)) ∧ Own w' w.heap.size nA nc M.name ∧ Own w' w.heap.size rA rc M.reason ∧ OwnU w' w.heap.size vA vc M.vers
  bel : Below w.heap.size w w'
structure ByM (m : MV) : Prop where
  name : Bytes m.name
  reason : Bytes m.reason
  prio : 0 ≤ m.prio ∧ m.prio < 256
  ord : 0 ≤ m.ord ∧ m.ord < 256
theorem venc_by8 {x : Int} (h : InR x) : Bytes (venc x) := (venc_le x h.1 h.2).2.2
theorem vencs_by {l : List Int} (h : ∀ x ∈ l, 0 ≤ x ∧ x < 4611686018427387904) : Bytes (vencs l) := by
  intro y hy
  unfold vencs at hy
  obtain ⟨x, hx, hy⟩ := List.mem_flatMap.1 hy
  exact venc_by8 (h x hx) y hy
theorem vtext_by {l : List Int} (h : l.length ≤ 900) (hb : Bytes l) : Bytes (vtext l) := by
  unfold vtext
  exact (venc_by8 ⟨by omega, by omega⟩).append hb
theorem one_by {x : Int} (h : 0 ≤ x ∧ x < 256) : Bytes [x] := by
  intro y hy
  simp at hy
  rw [hy]
  exact h
theorem encF_by (k : Nat) (hk : k < 13) {m : MV} (h : GoodV m) (hb : ByM m) : Bytes (encF k m) := by
  rcases (show k = 0 ∨ k = 1 ∨ k = 2 ∨ k = 3 ∨ k = 4 ∨ k = 5 ∨ k = 6 ∨ k = 7 ∨ k = 8 ∨ k = 9 ∨ k = 10 ∨ k = 11 ∨ k = 12 by omega) with rfl | rfl | rfl | rfl | rfl | rfl | rfl | rfl | rfl | rfl | rfl | rfl | rfl
  · exact venc_by8 h.id
  · exact venc_by8 h.alias_
  · exact vtext_by h.name hb.name
  · exact one_by hb.prio
  · exact one_by hb.ord
  · exact one_by (by unfold bitI; split <;> decide)
  · exact (venc_by8 h.sg).append (venc_by8 h.so)
  · show Bytes (if m.kind == 3 then venc m.eg else venc m.eg ++ venc m.eo)
    split
    · exact venc_by8 h.eg
    · exact (venc_by8 h.eg).append (venc_by8 h.eo)
  · exact venc_by8 h.code
  · exact vtext_by h.reason hb.reason
  · exact (venc_by8 (x := (m.vers.length : Int)) ⟨by omega, by have := h.vl; omega⟩).append (vencs_by h.vers)
  · exact venc_by8 h.ver
  · exact venc_by8 h.n
theorem encR_by (own : Int) {m : MV} (h : GoodV m) (hb : ByM m) : ∀ k, k ≤ 13 → Bytes (encR own m k)
  | 0, _ => Bytes.nil
  | k + 1, hk => by
    unfold encR
    refine (encR_by own h hb k (by omega)).append ?_
    split
    · exact encF_by k (by omega) h hb
    · exact Bytes.nil
theorem encM_bytes {m : MV} (h : GoodV m) (hk : knW m.kind = true) (hb : ByM m) : Bytes (encM m) := by
  have hl := encR_len (foW m.kind) h 13 (Nat.le_refl _)
  have h1 := encR_by (foW m.kind) h hb 13 (Nat.le_refl _)
  have h2 := own_in hk
  unfold encM
  rw [venc_kind hk]
  refine (one_by ⟨h2.2.1, by omega⟩).append (Bytes.append ?_ h1)
  intro y hy
  simp at hy
  rcases hy with rfl | rfl <;> omega
theorem RMOk.bym {w : World} {x : RM} (h : RMOk w x) : ByM (cutM x.m) :=
  ⟨fun y hy => h.nm.2 y (List.mem_of_mem_take hy), fun y hy => h.rs.2 y (List.mem_of_mem_take hy), h.prio, h.ord⟩
theorem wf_u16W {a : Int} (h : (Lit.int .u16 a).wf = true) : 0 ≤ a ∧ a < 65536 := by
  have h1 : IntKind.u16.min = 0 := rfl
  have h2 : IntKind.u16.max = 65535 := rfl
  simp [Lit.wf] at h
  omega
set_option maxRecDepth 100000 in
set_option maxHeartbeats 3200000 in
theorem cuts15_walk (x : RM) (a : Int) (w : World) (ht : Tab w) (hx : RMOk w x) (wa : (Lit.int .u16 a).wf = true) :
    Calls Tryd.prog 5 #[.agg x.val, .int .u16 a] w fun r w' => r = .returned (.bool true) ∧ Below w.heap.size w w' := by
  have ha : 0 ≤ a ∧ a < 65536 := by have := wf_u16W wa; exact this
  obtain ⟨W, hW⟩ : ∃ W, W = w.alloc (.cells x.val 28) := ⟨_, rfl⟩
  have bw : Below w.heap.size w W := by rw [hW]; exact (Below.refl _ _).alloc (Nat.le_refl _) _
  have km : Blk W w.heap.size 28 x.val := by rw [hW]; exact Blk.new _ _ _
  have AW := Lib.hid (awake15_any W (ht.below bw))
  have FW := Lib.hid (fun W' (h : Below w.heap.size w W') => fewW_any x W' (hx.below h))
  have RB := Lib.hid (fun w2 nA nc rA rc vA vc base h1 h2 h3 => refB_of (w2 := w2) hx (nA := nA) (nc := nc) (rA := rA) (rc := rc) (vA := vA) (vc := vc) (base := base) h1 h2 h3)
  have HRV := Lib.hid (show rightM (cutM x.m) = true → validB (cutM x.m) = true ∧ GoodV (cutM x.m) ∧ refB (cutM x.m) = encM (cutM x.m) ∧ Bytes (encM (cutM x.m)) from fun h => by
    have hv : validB (cutM x.m) = true := by rw [← right_valid]; exact h
    exact ⟨hv, goodV_of hv hx.pos, refB_enc _ (valid_kind hv), encM_bytes (goodV_of hv hx.pos) (valid_kind hv) hx.bym⟩)
  have KM := Lib.hid km
  have BW := Lib.hid bw
  obtain ⟨M, hM⟩ : ∃ M, M = cutM x.m := ⟨_, rfl⟩
  rw [← hM] at RB HRV
  have FW2 := Lib.hid (fun W' h => (FW.out W' h).mono fun r w' (q : FewTo W' w' _ r) => (show FewTo2 W' w' M r from by rw [hM]; exact ⟨q.ok, q.bel⟩))
  obtain ⟨⟨kind, id, alias_, name, prio, ord, sg, so, eg, eo, some_, code, reason, n, ver, vers⟩, nA, nc, rA, rc, vA, vc⟩ := x
  unfold RM.val mvC at hW KM FW2 ⊢
  simp only at hW KM FW2 ⊢
  have HW := Lib.hid hW
  clear hW bw km ht hx wa FW hM
  go_enter Tryd.func5, Tryd.ntmps5
  go_wp2_with fail
  rw [← HW.out]
  refine AW.out.mono ?_
  rintro e w1 ⟨rfl, b1⟩
  have k1 := KM.out.below b1 KM.out.lt
  have B1 := Lib.hid (BW.out.trans (b1.mono BW.out.size))
  have z1 := k1.lt
  have c0 := k1.cell 0
  have c1 := k1.cell 1
  have c2 := k1.cell 2
  have c3 := k1.cell 3
  have c4 := k1.cell 4
  have c5 := k1.cell 5
  have c6 := k1.cell 6
  have c7 := k1.cell 7
  have c8 := k1.cell 8
  have c9 := k1.cell 9
  have c10 := k1.cell 10
  have c11 := k1.cell 11
  have c12 := k1.cell 12
  have c13 := k1.cell 13
  have c14 := k1.cell 14
  have c15 := k1.cell 15
  simp only [List.getElem?_toArray, List.getElem?_cons_zero, List.getElem?_cons_succ] at c0 c1 c2 c3 c4 c5 c6 c7 c8 c9 c10 c11 c12 c13 c14 c15
  clear k1 b1 AW KM HW BW
  go_wp2_with fail
  refine (FW2.out _ B1.out).mono ?_
  rintro e w2 h2
  obtain ⟨nA2, nc2, rA2, rc2, vA2, vc2, rfl, o1, o2, o3⟩ := h2.ok
  have B2 := Lib.hid (B1.out.trans (h2.bel.mono B1.out.size))
  have RB2 := Lib.hid (RB.out w2 nA2 nc2 rA2 rc2 vA2 vc2 _ o1 o2 o3)
  clear h2 o1 o2 o3 FW2 RB B1 c0 c1 c2 c3 c4 c5 c6 c7 c8 c9 c10 c11 c12 c13 c14 c15 z1
  go_wp2_with fail
  refine RB2.out.mono ?_
  rintro e w3 h3
  have B3 := Lib.hid (B2.out.trans (h3.bel.mono B2.out.size))
  cases hrt : rightM M with
  | false =>
    obtain rfl := h3.no hrt
    clear h3 RB2 B2
    go_wp2_with fail
    go_ret
    exact ⟨rfl, B3.out⟩
  | true =>
    obtain ⟨A4, c4, rfl, o4⟩ := h3.ok hrt
    obtain ⟨hv, hg, he, hby⟩ := HRV.out hrt
    rw [he] at o4 ⊢
    have hl := encM_len hg (valid_kind hv)
    have hcut := Lib.hid (fun i hi => read_cut hv i hi)
    have HB := Lib.hid hby
    obtain ⟨L, hL⟩ : ∃ L, L = encM M := ⟨_, rfl⟩
    rw [← hL] at o4 hl hcut HB ⊢
    obtain ⟨k, hk⟩ : ∃ k : Nat, a % (L.length : Int) = (k : Int) := ⟨(a % (L.length : Int)).toNat, by have := Int.emod_nonneg a (b := (L.length : Int)) (by omega); omega⟩
    have hkl : k < L.length := by have := Int.emod_lt_of_pos a (b := (L.length : Int)) (by omega); omega
    have hkt : Int.tmod a (L.length : Int) = (k : Int) := by rw [Int.tmod_eq_emod_of_nonneg ha.1]; exact hk
    have hcap := (OwnV.capW (show OwnV w3 w2.heap.size 5 1 A4 c4 L.length (U8 L) from o4)).1
    obtain ⟨A5, hs1, hs2, hs3⟩ := slice_upto A4 c4 L k .i64 (Nat.le_of_lt hkl) hcap
    have sl := Sl.of_own o4
    have htl : (L.take k).length = k := by rw [List.length_take]; omega
    have hsl : Sl w3 A5 c4 (L.take k) := ⟨hs2 w3 sl.rd, by omega, sl.max, fun e => sl.nil (hs3 e)⟩
    have RD := Lib.hid (Read_any A5 c4 (L.take k) w3 hsl (fun y hy => HB.out y (List.mem_of_mem_take hy)) (by omega))
    have HC := Lib.hid (hcut.out k hkl)
    have hl1 := hl.1
    obtain ⟨Tk, hTk⟩ : ∃ T, T = L.take k := ⟨_, rfl⟩
    rw [← hTk] at hs1 RD HC
    clear hTk htl h3 RB2 B2 hv hg he hby hL sl hsl hs2 hs3 o4 hcut HB HRV hl hcap hrt
    go_wp2_with fail
    refine RD.out.mono ?_
    rintro e w5 h5
    obtain rfl := h5.no 2 HC.out
    have B5 := Lib.hid (B3.out.trans (h5.bel.mono B3.out.size))
    clear h5 RD
    unfold zeroM mvC mv0
    simp only [List.length_nil]
    go_wp2_with fail
    go_ret
    exact ⟨rfl, B5.out.alloc B5.out.size _⟩
theorem cutM_cut (m : MV) : cutM (cutM m) = cutM m := by
  unfold cutM
  simp [List.take_take]
/-- A message whose rows are the call's own came in as well. -/
theorem own_ok {w w2 : World} {x : RM} (hx : RMOk w x) {nA rA vA : Option Addr} {nc rc vc base : Nat} (h1 : Own w2 base nA nc (cutM x.m).name) (h2 : Own w2 base rA rc (cutM x.m).reason) (h3 : OwnU w2 base vA vc (cutM x.m).vers) :
    RMOk w2 ⟨cutM x.m, nA, nc, rA, rc, vA, vc⟩ := by
  have hc := OwnV.capW h3
  exact ⟨hx.kind, hx.id, hx.alias_, hx.sg, hx.so, hx.eg, hx.eo, hx.code, hx.n, hx.ver, hx.prio, hx.ord, ⟨Sl.of_own h1, hx.bym.name⟩, ⟨Sl.of_own h2, hx.bym.reason⟩,
    ⟨OwnV.reads h3, fun y hy => hx.vs.ok y (List.mem_of_mem_take hy), hc.1, hc.2, fun e => by
      have := h3.2
      rcases this with ⟨e1, _⟩ | ⟨g, cap, cur, hv, _⟩
      · injection e1
      · change vA = none at e
        subst e
        cases hv⟩⟩
set_option maxRecDepth 100000 in
set_option maxHeartbeats 6400000 in
theorem bytes15_walk (x : RM) (A : Option Addr) (c : Nat) (l : List Int) (w : World) (ht : Tab w) (hx : RMOk w x) (hr : Rd w A l) (hb : Bytes l) (hc : l.length ≤ c) (hm : c ≤ 9223372036854775807) (hn : A = none → c = 0) :
    Calls Tryd.prog 3 #[.agg x.val, .slice A l.length c] w fun r w' => r = .returned (.bool true) ∧ Below w.heap.size w w' := by
  obtain ⟨W, hW⟩ : ∃ W, W = w.alloc (.cells x.val 28) := ⟨_, rfl⟩
  have bw : Below w.heap.size w W := by rw [hW]; exact (Below.refl _ _).alloc (Nat.le_refl _) _
  have km : Blk W w.heap.size 28 x.val := by rw [hW]; exact Blk.new _ _ _
  have AW := Lib.hid (awake15_any W (ht.below bw))
  have HT := Lib.hid ht
  have FW := Lib.hid (fun W' (h : Below w.heap.size w W') => fewW_any x W' (hx.below h))
  have FWB := Lib.hid (fun w2 nA nc rA rc vA vc base h1 h2 h3 => fewW_any _ w2 (own_ok (w2 := w2) hx (nA := nA) (nc := nc) (rA := rA) (rc := rc) (vA := vA) (vc := vc) (base := base) h1 h2 h3))
  have RB := Lib.hid (fun w2 nA nc rA rc vA vc base h1 h2 h3 => refB_of (w2 := w2) hx (nA := nA) (nc := nc) (rA := rA) (rc := rc) (vA := vA) (vc := vc) (base := base) h1 h2 h3)
  have HRV := Lib.hid (show validB (cutM x.m) = true → GoodV (cutM x.m) ∧ refB (cutM x.m) = encM (cutM x.m) ∧ Bytes (encM (cutM x.m)) ∧ InR (cutM x.m).kind ∧ knW (cutM x.m).kind = true from fun hv =>
    ⟨goodV_of hv hx.pos, refB_enc _ (valid_kind hv), encM_bytes (goodV_of hv hx.pos) (valid_kind hv) hx.bym, (inM_of hv hx.pos).kind, valid_kind hv⟩)
  have HLN := Lib.hid (cutM_lens x.m)
  have HBY := Lib.hid hx.bym
  have KM := Lib.hid km
  have BW := Lib.hid bw
  obtain ⟨M, hM⟩ : ∃ M, M = cutM x.m := ⟨_, rfl⟩
  rw [← hM] at RB HRV HLN HBY
  have FW2 := Lib.hid (fun W' h => (FW.out W' h).mono fun r w' (q : FewTo W' w' _ r) => (show FewTo2 W' w' M r from by rw [hM]; exact ⟨q.ok, q.bel⟩))
  have FWB2 := Lib.hid (fun w2 nA nc rA rc vA vc base (h1 : Own w2 base nA nc M.name) (h2 : Own w2 base rA rc M.reason) (h3 : OwnU w2 base vA vc M.vers) => show Calls Tryd.prog 10 #[.agg (mvC M nA nc rA rc vA vc)] w2 fun r w' => FewTo2 w2 w' M r by
    rw [hM] at h1 h2 h3 ⊢
    refine (FWB.out w2 nA nc rA rc vA vc base h1 h2 h3).mono fun r w' q => ?_
    have q1 := q.ok
    have q2 := q.bel
    simp only [cutM_cut] at q1
    exact ⟨q1, q2⟩)
  have CC := Lib.hid (fun W' (hb' : Below w.heap.size w W') => cut_any A c l 40 W' (Rd.below hr hb') (by omega) hc (by omega) (by omega))
  have HBL := Lib.hid (show Bytes (l.take (40 : Int).toNat) from fun y hy => hb y (List.mem_of_mem_take hy))
  obtain ⟨⟨kind, id, alias_, name, prio, ord, sg, so, eg, eo, some_, code, reason, n, ver, vers⟩, nA, nc, rA, rc, vA, vc⟩ := x
  unfold RM.val mvC at hW KM FW2 ⊢
  simp only at hW KM FW2 ⊢
  have HW := Lib.hid hW
  clear hW bw km ht hx FW FWB hM hr hb
  go_enter Tryd.func3, Tryd.ntmps3
  go_wp2_with fail
  rw [← HW.out]
  refine AW.out.mono ?_
  rintro e w1 ⟨rfl, b1⟩
  have k1 := KM.out.below b1 KM.out.lt
  have K1 := Lib.hid k1
  have B1 := Lib.hid (BW.out.trans (b1.mono BW.out.size))
  have z1 := k1.lt
  have c0 := k1.cell 0
  have c1 := k1.cell 1
  have c2 := k1.cell 2
  have c3 := k1.cell 3
  have c4 := k1.cell 4
  have c5 := k1.cell 5
  have c6 := k1.cell 6
  have c7 := k1.cell 7
  have c8 := k1.cell 8
  have c9 := k1.cell 9
  have c10 := k1.cell 10
  have c11 := k1.cell 11
  have c12 := k1.cell 12
  have c13 := k1.cell 13
  have c14 := k1.cell 14
  have c15 := k1.cell 15
  simp only [List.getElem?_toArray, List.getElem?_cons_zero, List.getElem?_cons_succ] at c0 c1 c2 c3 c4 c5 c6 c7 c8 c9 c10 c11 c12 c13 c14 c15
  clear k1 b1 AW KM HW BW
  go_wp2_with fail
  refine (FW2.out _ B1.out).mono ?_
  rintro e w2 h2
  obtain ⟨nA2, nc2, rA2, rc2, vA2, vc2, rfl, o1, o2, o3⟩ := h2.ok
  have K2 := Lib.hid (K1.out.below h2.bel K1.out.lt)
  have B2 := Lib.hid (B1.out.trans (h2.bel.mono B1.out.size))
  obtain ⟨gm, hgm⟩ : ∃ g, g = w.heap.size := ⟨_, rfl⟩
  have hw1z := B1.out.size
  have hgm1 : gm < w1.heap.size := by rw [hgm]; exact z1
  obtain ⟨w3, hw3⟩ : ∃ w3, w3 = w2.setRow gm #[.int .u64 M.kind, .int .u64 M.id, .int .u64 M.alias_, .slice nA2 M.name.length nc2, .int .u8 M.prio, .int .u8 M.ord, .int .u64 M.sg, .int .u64 M.so, .int .u64 M.eg, .int .u64 M.eo, .bool M.some_, .int .u64 M.code, .slice rA2 M.reason.length rc2, .int .u64 M.n, .int .u64 M.ver, .slice vA2 M.vers.length vc2] := ⟨_, rfl⟩
  have gg : w2.grownBy w3 (some gm) := by rw [hw3]; exact grow_rowW
  have OO := Lib.hid (show Own w3 w1.heap.size nA2 nc2 M.name ∧ Own w3 w1.heap.size rA2 rc2 M.reason ∧ OwnU w3 w1.heap.size vA2 vc2 M.vers from
    ⟨own_gsW o1 (by rw [hgm]; exact K2.out) (by decide) gg, own_gsW o2 (by rw [hgm]; exact K2.out) (by decide) gg, ownU_gsW o3 (by rw [hgm]; exact K2.out) (by decide) gg⟩)
  have K3 := Lib.hid (show Blk w3 gm 28 (mvC M nA2 nc2 rA2 rc2 vA2 vc2) by rw [hw3]; exact Blk.setRowPW (show Blk w2 gm 28 _ by rw [hgm]; exact K2.out))
  have B3 := Lib.hid (below_gsW B2.out gg (by omega) B2.out.size)
  have Z3 := Lib.hid (show w1.heap.size ≤ w3.heap.size from Nat.le_trans h2.bel.size gg.size)
  have K2G := Lib.hid (show Blk w2 gm 28 _ by rw [hgm]; exact K2.out)
  have HG := Lib.hid hgm1
  have HW3 := Lib.hid hw3
  have HGM := Lib.hid hgm
  rw [show w.heap.size = gm from hgm.symm]
  clear h2 o1 o2 o3 FW2 B1 K1 K2 B2 hw1z hgm1 hgm gg hw3 c0 c1 c2 c3 c4 c5 c6 c7 c8 c9 c10 c11 c12 c13 c14 c15 z1
  unfold mvC
  go_upto_region 4 with (refine wpList_store_row rfl 28 (.tmp 2) (.tmp 16) rfl gm _ rfl rfl 28 _ K2G.out info_rmsg rfl (by simp [Value.oneCell']) ?_)
  rw [← HW3.out]
  as_aux_lemma =>
      have k3 := K3.out
      unfold mvC at k3
      have z3 := k3.lt
      have d0 := k3.cell 0
      have d1 := k3.cell 1
      have d2 := k3.cell 2
      have d3 := k3.cell 3
      have d4 := k3.cell 4
      have d5 := k3.cell 5
      have d6 := k3.cell 6
      have d7 := k3.cell 7
      have d8 := k3.cell 8
      have d9 := k3.cell 9
      have d10 := k3.cell 10
      have d11 := k3.cell 11
      have d12 := k3.cell 12
      have d13 := k3.cell 13
      have d14 := k3.cell 14
      have d15 := k3.cell 15
      simp only [List.getElem?_toArray, List.getElem?_cons_zero, List.getElem?_cons_succ] at d0 d1 d2 d3 d4 d5 d6 d7 d8 d9 d10 d11 d12 d13 d14 d15
      clear k3 K2G HW3
      go_wp2_with fail
      refine (FWB2.out w3 nA2 nc2 rA2 rc2 vA2 vc2 _ OO.out.1 OO.out.2.1 OO.out.2.2).mono ?_
      rintro e w4 h4
      obtain ⟨nA5, nc5, rA5, rc5, vA5, vc5, rfl, p1, p2, p3⟩ := h4.ok
      obtain ⟨gs, hgs⟩ : ∃ g, g = w4.heap.size := ⟨_, rfl⟩
      obtain ⟨w5, hw5⟩ : ∃ w5, w5 = w4.alloc (.cells #[.int .u64 M.kind, .int .u64 M.id, .int .u64 M.alias_, .slice nA5 M.name.length nc5, .int .u8 M.prio, .int .u8 M.ord, .int .u64 M.sg, .int .u64 M.so, .int .u64 M.eg, .int .u64 M.eo, .bool M.some_, .int .u64 M.code, .slice rA5 M.reason.length rc5, .int .u64 M.n, .int .u64 M.ver, .slice vA5 M.vers.length vc5] 31) := ⟨_, rfl⟩
      have b45 : Below w4.heap.size w4 w5 := by rw [hw5]; exact (Below.refl _ _).alloc (Nat.le_refl _) _
      have b35 := h4.bel.trans (b45.mono h4.bel.size)
      have KS := Lib.hid (show Blk w5 gs 31 (mvC M nA5 nc5 rA5 rc5 vA5 vc5) by rw [hw5, hgs]; exact Blk.new _ _ _)
      have K5 := Lib.hid (K3.out.below b35 z3)
      have B5 := Lib.hid (B3.out.trans (b35.mono B3.out.size))
      have O5 := Lib.hid (And.intro (Own.below p1 b45) (And.intro (Own.below p2 b45) (OwnV.below p3 b45)))
      have O2 := Lib.hid (And.intro (Own.below OO.out.1 b35) (And.intro (Own.below OO.out.2.1 b35) (OwnV.below OO.out.2.2 b35)))
      have HW5 := Lib.hid hw5
      have HGS := Lib.hid hgs
      clear h4 p1 p2 p3 hw5 b45 b35 K3 B3 OO FWB2 hgs d0 d1 d2 d3 d4 d5 d6 d7 d8 d9 d10 d11 d12 d13 d14 d15 z3
      unfold mvC
      go_upto_region 5 with (fail)
      rw [← HW5.out, show w4.heap.size = gs from HGS.out.symm]
      have ks := KS.out
      unfold mvC at ks
      have zs := ks.lt
      have f0 := ks.cell 0
      have f1 := ks.cell 1
      have f2 := ks.cell 2
      have f3 := ks.cell 3
      have f4 := ks.cell 4
      have f5 := ks.cell 5
      have f6 := ks.cell 6
      have f7 := ks.cell 7
      have f8 := ks.cell 8
      have f9 := ks.cell 9
      have f10 := ks.cell 10
      have f11 := ks.cell 11
      have f12 := ks.cell 12
      have f13 := ks.cell 13
      have f14 := ks.cell 14
      have f15 := ks.cell 15
      simp only [List.getElem?_toArray, List.getElem?_cons_zero, List.getElem?_cons_succ] at f0 f1 f2 f3 f4 f5 f6 f7 f8 f9 f10 f11 f12 f13 f14 f15
      have E5 := HT.out.below B5.out
      have CB := Lib.hid (BytesW_any M nA5 nc5 rA5 rc5 vA5 vc5 w5.heap.size w5 ⟨E5, E5.1, Nat.le_refl _⟩ (fun h => ⟨(HRV.out h).1, (HRV.out h).2.2.2.1⟩) ⟨Rd.of_own O5.out.1, Rd.of_own O5.out.2.1, OwnV.reads O5.out.2.2⟩ (by have := HLN.out; omega) (by have := HLN.out; omega) (by have := HLN.out; omega))
      obtain ⟨PB, hPB⟩ : ∃ PB, PB = (if validB M = true then encM M else []) := ⟨_, rfl⟩
      obtain ⟨EC, hEC⟩ : ∃ EC : Int, EC = (if validB M = true then 0 else 4) := ⟨_, rfl⟩
      have HPB := Lib.hid hPB
      have HEC := Lib.hid hEC
      have QR := Lib.hid (show Rd w5 nA2 M.name ∧ Rd w5 rA2 M.reason ∧ RdI .u64 w5 vA2 M.vers from ⟨Rd.of_own O2.out.1, Rd.of_own O2.out.2.1, OwnV.reads O2.out.2.2⟩)
      have KG5 := Lib.hid K5.out
      have B5K := Lib.hid B5.out
      clear ks HW5 E5 hPB hEC
      as_aux_lemma =>
          go_wp2_with fail
          refine CB.out.mono ?_
          rintro e w6 h6
          have hu : ∃ A6 c6, e = .returned (.tuple #[.slice A6 PB.length c6, .int .i64 EC]) ∧ Own w6 w5.heap.size A6 c6 PB := by
            rw [HPB.out, HEC.out]
            by_cases hv : validB M = true
            · obtain ⟨A6, c6, e1, e2⟩ := h6.ok hv
              exact ⟨A6, c6, by rw [if_pos hv, if_pos hv]; exact e1, by rw [if_pos hv]; exact e2⟩
            · have e1 := h6.no (by simpa using hv)
              exact ⟨none, 0, by rw [if_neg hv, if_neg hv]; exact e1, by rw [if_neg hv]; exact Own.nil _ _⟩
          obtain ⟨A6, c6, rfl, p6⟩ := hu
          have P6 := Lib.hid p6
          have BB6 := Lib.hid h6.bel
          have KS6 := Lib.hid (KS.out.below h6.bel zs)
          have K6 := Lib.hid (K5.out.below h6.bel K5.out.lt)
          have B6 := Lib.hid (B5.out.trans (h6.bel.mono B5.out.size))
          have O6 := Lib.hid (And.intro (Own.below O5.out.1 h6.bel) (And.intro (Own.below O5.out.2.1 h6.bel) (OwnV.below O5.out.2.2 h6.bel)))
          have Q6 := Lib.hid (And.intro (Own.below O2.out.1 h6.bel) (And.intro (Own.below O2.out.2.1 h6.bel) (OwnV.below O2.out.2.2 h6.bel)))
          have RB6 := Lib.hid (RB.out w6 nA2 nc2 rA2 rc2 vA2 vc2 _ Q6.out.1 Q6.out.2.1 Q6.out.2.2)
          have k6 := K6.out
          unfold mvC at k6
          have z6 := k6.lt
          have d0 := k6.cell 0
          have d1 := k6.cell 1
          have d2 := k6.cell 2
          have d3 := k6.cell 3
          have d4 := k6.cell 4
          have d5 := k6.cell 5
          have d6 := k6.cell 6
          have d7 := k6.cell 7
          have d8 := k6.cell 8
          have d9 := k6.cell 9
          have d10 := k6.cell 10
          have d11 := k6.cell 11
          have d12 := k6.cell 12
          have d13 := k6.cell 13
          have d14 := k6.cell 14
          have d15 := k6.cell 15
          simp only [List.getElem?_toArray, List.getElem?_cons_zero, List.getElem?_cons_succ] at d0 d1 d2 d3 d4 d5 d6 d7 d8 d9 d10 d11 d12 d13 d14 d15
          clear h6 p6 k6 CB KS K5 B5 O5 O2 RB f0 f1 f2 f3 f4 f5 f6 f7 f8 f9 f10 f11 f12 f13 f14 f15 zs
          unfold mvC at RB6
          go_wp2_with fail
          refine RB6.out.mono ?_
          rintro e w7 h7
          have hu : ∃ A7 c7, e = .returned (.tuple #[.slice A7 PB.length c7, .int .i64 EC]) ∧ Own w7 w6.heap.size A7 c7 PB := by
            rw [HPB.out, HEC.out]
            by_cases hv : validB M = true
            · obtain ⟨A6, c6, e1, e2⟩ := h7.ok (by rw [right_valid]; exact hv)
              rw [(HRV.out hv).2.1] at e1 e2
              exact ⟨A6, c6, by rw [if_pos hv, if_pos hv]; exact e1, by rw [if_pos hv]; exact e2⟩
            · have e1 := h7.no (by rw [right_valid]; simpa using hv)
              exact ⟨none, 0, by rw [if_neg hv, if_neg hv]; exact e1, by rw [if_neg hv]; exact Own.nil _ _⟩
          obtain ⟨A7, c7, rfl, p7⟩ := hu
          have hPBb : Bytes PB := by
            rw [HPB.out]
            by_cases hv : validB M = true
            · rw [if_pos hv]; exact (HRV.out hv).2.2.1
            · rw [if_neg hv]; exact Bytes.nil
          have SM := same_any A6 A7 c6 c7 PB PB w7 (Rd.of_own (Own.below P6.out h7.bel)) (Rd.of_own p7) hPBb hPBb
          rw [show sameB PB PB = true by simp [sameB]] at SM
          have SMH := Lib.hid SM
          have P7 := Lib.hid (Own.below P6.out h7.bel)
          have KS7 := Lib.hid (KS6.out.below h7.bel KS6.out.lt)
          have K7 := Lib.hid (K6.out.below h7.bel z6)
          have B7 := Lib.hid (B6.out.trans (h7.bel.mono B6.out.size))
          have O7 := Lib.hid (And.intro (Own.below O6.out.1 h7.bel) (And.intro (Own.below O6.out.2.1 h7.bel) (OwnV.below O6.out.2.2 h7.bel)))
          have Q7 := Lib.hid (And.intro (Own.below Q6.out.1 h7.bel) (And.intro (Own.below Q6.out.2.1 h7.bel) (OwnV.below Q6.out.2.2 h7.bel)))
          have CS := Lib.hid (show Calls Tryd.prog 14 #[.agg (mvC M nA5 nc5 rA5 rc5 vA5 vc5), .agg (mvC M nA2 nc2 rA2 rc2 vA2 vc2)] w7 fun r w' => r = .returned (.bool true) ∧ Below w7.heap.size w7 w' by
            have := sameW_any M M nA5 nc5 rA5 rc5 vA5 vc5 nA2 nc2 rA2 rc2 vA2 vc2 w7 (Rd.of_own O7.out.1) (Rd.of_own O7.out.2.1) (OwnV.reads O7.out.2.2) (Rd.of_own Q7.out.1) (Rd.of_own Q7.out.2.1) (OwnV.reads Q7.out.2.2) HBY.out.name HBY.out.reason HBY.out.name HBY.out.reason (by have := HLN.out; omega) (by have := HLN.out; omega)
            rwa [(sameMB_iff M M).2 rfl] at this)
          have ks := KS7.out
          have k7 := K7.out
          unfold mvC at ks k7 CS
          have zs := ks.lt
          have z7 := k7.lt
          have Z7 := Lib.hid (show Below w5.heap.size w5 w7 from BB6.out.trans (h7.bel.mono BB6.out.size))
          have f0 := ks.cell 0
          have f1 := ks.cell 1
          have f2 := ks.cell 2
          have f3 := ks.cell 3
          have f4 := ks.cell 4
          have f5 := ks.cell 5
          have f6 := ks.cell 6
          have f7 := ks.cell 7
          have f8 := ks.cell 8
          have f9 := ks.cell 9
          have f10 := ks.cell 10
          have f11 := ks.cell 11
          have f12 := ks.cell 12
          have f13 := ks.cell 13
          have f14 := ks.cell 14
          have f15 := ks.cell 15
          simp only [List.getElem?_toArray, List.getElem?_cons_zero, List.getElem?_cons_succ] at f0 f1 f2 f3 f4 f5 f6 f7 f8 f9 f10 f11 f12 f13 f14 f15
          clear d0 d1 d2 d3 d4 d5 d6 d7 d8 d9 d10 d11 d12 d13 d14 d15
          have d0 := k7.cell 0
          have d1 := k7.cell 1
          have d2 := k7.cell 2
          have d3 := k7.cell 3
          have d4 := k7.cell 4
          have d5 := k7.cell 5
          have d6 := k7.cell 6
          have d7 := k7.cell 7
          have d8 := k7.cell 8
          have d9 := k7.cell 9
          have d10 := k7.cell 10
          have d11 := k7.cell 11
          have d12 := k7.cell 12
          have d13 := k7.cell 13
          have d14 := k7.cell 14
          have d15 := k7.cell 15
          simp only [List.getElem?_toArray, List.getElem?_cons_zero, List.getElem?_cons_succ] at d0 d1 d2 d3 d4 d5 d6 d7 d8 d9 d10 d11 d12 d13 d14 d15
          have hECn : (EC != EC) = false := by simp
          clear h7 p7 ks k7 SM P6 KS6 K6 B6 O6 Q6 RB6 z6 BB6
          as_aux_lemma =>
              go_wp2_with fail
              refine SMH.out.mono ?_
              rintro e w8 ⟨rfl, hh⟩
              subst hh
              go_wp2_with fail
              refine CS.out.mono ?_
              rintro e w9 ⟨rfl, b9⟩
              have B9 := Lib.hid (B7.out.trans (b9.mono B7.out.size))
              have BB9 := Lib.hid (Z7.out.trans (b9.mono Z7.out.size))
              have P9 := Lib.hid (Own.below P7.out b9)
              clear b9 P7 KS7 K7 B7 O7 Q7 CS SMH Z7 d0 d1 d2 d3 d4 d5 d6 d7 d8 d9 d10 d11 d12 d13 d14 d15 f0 f1 f2 f3 f4 f5 f6 f7 f8 f9 f10 f11 f12 f13 f14 f15 zs z7
              by_cases hv : validB M = true
              · obtain rfl : EC = 0 := by rw [HEC.out, if_pos hv]
                have hP : PB = encM M := by rw [HPB.out, if_pos hv]
                obtain ⟨hg, _, heb, _, hkn⟩ := HRV.out hv
                obtain ⟨TT, hTT⟩ : ∃ TT, TT = l.take (40 : Int).toNat := ⟨_, rfl⟩
                have CC2 := CC.out w9 B9.out
                rw [← hTT] at CC2
                have CC3 := Lib.hid CC2
                have HTB := Lib.hid (show Bytes TT by rw [hTT]; exact HBL.out)
                have hTl : TT.length ≤ 40 := by rw [hTT, List.length_take]; omega
                obtain ⟨X, hX⟩ : ∃ X, X = PB ++ TT := ⟨_, rfl⟩
                have HX := Lib.hid hX
                have hPl : PB.length ≤ 14000 := by rw [hP]; exact (encM_len hg hkn).2
                have hXl : X.length ≤ 14040 := by rw [hX, List.length_append]; omega
                have HXB := Lib.hid (show Bytes X by rw [hX, hP]; exact heb.append HTB.out)
                have HRD := Lib.hid (show readW X = .ok (M, TT) by rw [hX, hP]; exact read_enc hv hg TT)
                clear hX hTT CC2 hP hg heb hkn hv CC HBL HPB HEC HRV
                as_aux_lemma =>
                    go_wp2_with fail
                    refine CC3.out.mono ?_
                    rintro e w10 ⟨D, d, rfl, o10, b10⟩
                    have O10 := Lib.hid o10
                    have P10 := Lib.hid (Own.below P9.out b10)
                    have B10 := Lib.hid (B9.out.trans (b10.mono B9.out.size))
                    have BB10 := Lib.hid (BB9.out.trans (b10.mono BB9.out.size))
                    have HLT := Lib.hid (show ∀ kk, (Value.slice A6 PB.length c6).ownBlock = some kk → kk < w9.heap.size from fun kk hk => OwnV.row_lt (show OwnV w9 w5.heap.size 5 1 A6 c6 PB.length (U8 PB) from P9.out) hk)
                    clear o10 b10 CC3 P9 B9 BB9
                    go_wp2_with (at_builtin
                                 go_must (refine wpList_appW rfl (.tmp 49) (.tmp 50) rfl w5.heap.size (l := PB) (news := TT) X HX.out rfl rfl P10.out (Rd.of_own O10.out) (by omega) BB10.out.size ?_)
                                 intro A11 c11 w11 o11 g11 b11
                                 have O11 := Lib.hid o11
                                 have D11 := Lib.hid (OwnV.apart (show OwnV w10 w9.heap.size 5 1 D d TT.length (U8 TT) from O10.out) g11 (fun kk hk e => by have h1 := HLT.out kk e; have h2 := OwnV.row_ge (show OwnV w10 w9.heap.size 5 1 D d TT.length (U8 TT) from O10.out) kk hk; omega))
                                 have BB11 := Lib.hid (BB10.out.trans b11)
                                 have RD := Lib.hid (Read_any A11 c11 X w11 (Sl.of_own o11) HXB.out (by omega))
                                 clear o11 g11 b11)
                    refine RD.out.mono ?_
                    rintro e w12 h12
                    obtain ⟨nA8, nc8, rA8, rc8, vA8, vc8, qA, qc, rfl, u1, u2, u3, u4⟩ := h12.ok M TT HRD.out
                    have BB12 := BB11.out.trans (h12.bel.mono BB11.out.size)
                    have D12 := Own.below (show Own w11 w9.heap.size D d TT from D11.out) h12.bel
                    have hz := BB12.size
                    obtain ⟨w13, hw13⟩ : ∃ w13, w13 = w12.alloc (.cells #[.int .u64 M.kind, .int .u64 M.id, .int .u64 M.alias_, .slice nA8 M.name.length nc8, .int .u8 M.prio, .int .u8 M.ord, .int .u64 M.sg, .int .u64 M.so, .int .u64 M.eg, .int .u64 M.eo, .bool M.some_, .int .u64 M.code, .slice rA8 M.reason.length rc8, .int .u64 M.n, .int .u64 M.ver, .slice vA8 M.vers.length vc8] 31) := ⟨_, rfl⟩
                    have b13 : Below w12.heap.size w12 w13 := by rw [hw13]; exact (Below.refl _ _).alloc (Nat.le_refl _) _
                    have BB13 := BB12.trans (b13.mono hz)
                    have CS := Lib.hid (show Calls Tryd.prog 14 #[.agg (mvC M nA8 nc8 rA8 rc8 vA8 vc8), .agg (mvC M nA2 nc2 rA2 rc2 vA2 vc2)] w13 fun r w' => r = .returned (.bool true) ∧ Below w13.heap.size w13 w' by
                      have := sameW_any M M nA8 nc8 rA8 rc8 vA8 vc8 nA2 nc2 rA2 rc2 vA2 vc2 w13 (Rd.of_own (Own.below u1 b13)) (Rd.of_own (Own.below u2 b13)) (OwnV.reads (OwnV.below u3 b13)) (Rd.below QR.out.1 BB13) (Rd.below QR.out.2.1 BB13) (RdI.below QR.out.2.2 BB13) HBY.out.name HBY.out.reason HBY.out.name HBY.out.reason (by have := HLN.out; omega) (by have := HLN.out; omega)
                      rwa [(sameMB_iff M M).2 rfl] at this)
                    have CE := Lib.hid (fun W' (hb : Below w13.heap.size w13 W') => by
                      have := same_any qA D qc d TT TT W' (Rd.of_own (Own.below (Own.below u4 b13) hb)) (Rd.of_own (Own.below (Own.below D12 b13) hb)) HTB.out HTB.out
                      rwa [show sameB TT TT = true by simp [sameB]] at this)
                    have kg := KG5.out.below BB13 KG5.out.lt
                    unfold mvC at kg CS ⊢
                    have zg := kg.lt
                    have d0 := kg.cell 0
                    have d1 := kg.cell 1
                    have d2 := kg.cell 2
                    have d3 := kg.cell 3
                    have d4 := kg.cell 4
                    have d5 := kg.cell 5
                    have d6 := kg.cell 6
                    have d7 := kg.cell 7
                    have d8 := kg.cell 8
                    have d9 := kg.cell 9
                    have d10 := kg.cell 10
                    have d11 := kg.cell 11
                    have d12 := kg.cell 12
                    have d13 := kg.cell 13
                    have d14 := kg.cell 14
                    have d15 := kg.cell 15
                    simp only [List.getElem?_toArray, List.getElem?_cons_zero, List.getElem?_cons_succ] at d0 d1 d2 d3 d4 d5 d6 d7 d8 d9 d10 d11 d12 d13 d14 d15
                    have KX := Lib.hid (show Blk w13 w12.heap.size 31 #[.int .u64 M.kind, .int .u64 M.id, .int .u64 M.alias_, .slice nA8 M.name.length nc8, .int .u8 M.prio, .int .u8 M.ord, .int .u64 M.sg, .int .u64 M.so, .int .u64 M.eg, .int .u64 M.eo, .bool M.some_, .int .u64 M.code, .slice rA8 M.reason.length rc8, .int .u64 M.n, .int .u64 M.ver, .slice vA8 M.vers.length vc8] by rw [hw13]; exact Blk.new _ _ _)
                    have kx := KX.out
                    have zx := kx.lt
                    have f0 := kx.cell 0
                    have f1 := kx.cell 1
                    have f2 := kx.cell 2
                    have f3 := kx.cell 3
                    have f4 := kx.cell 4
                    have f5 := kx.cell 5
                    have f6 := kx.cell 6
                    have f7 := kx.cell 7
                    have f8 := kx.cell 8
                    have f9 := kx.cell 9
                    have f10 := kx.cell 10
                    have f11 := kx.cell 11
                    have f12 := kx.cell 12
                    have f13 := kx.cell 13
                    have f14 := kx.cell 14
                    have f15 := kx.cell 15
                    simp only [List.getElem?_toArray, List.getElem?_cons_zero, List.getElem?_cons_succ] at f0 f1 f2 f3 f4 f5 f6 f7 f8 f9 f10 f11 f12 f13 f14 f15
                    have BF := Lib.hid (B5K.out.trans (BB13.mono B5K.out.size))
                    have HW13 := Lib.hid hw13
                    clear u1 u2 u3 u4 h12 BB12 D12 hz hw13 b13 BB13 kg kx RD O11 D11 BB11 O10 P10 BB10 HLT
                    go_upto_region 13 with (fail)
                    rw [← HW13.out]
                    go_wp2_with fail
                    refine CS.out.mono ?_
                    rintro e w14 ⟨rfl, b14⟩
                    go_wp2_with fail
                    refine (CE.out w14 b14).mono ?_
                    rintro e w15 ⟨rfl, hh⟩
                    subst hh
                    have BL := Lib.hid (BF.out.trans (b14.mono BF.out.size))
                    clear b14
                    go_wp2_with fail
                    go_ret
                    exact ⟨rfl, BL.out⟩
              · obtain rfl : EC = 4 := by rw [HEC.out, if_neg hv]
                clear hv
                go_wp2_with fail
                go_ret
                exact ⟨rfl, B9.out⟩
end Go.Proofs.YtmicehfofmjcjaaDoor
