/-
  WordCuts.
-/
import Derived.Test.YtmicehfofmjcjaaDoorWrdG
import Derived.Test.YtmicehfofmjcjaaDoorWordR
import Derived.Test.YtmicehfofmjcjaaDoorWordS
import Derived.Deep.DeepCutAuto
namespace Go.Proofs.YtmicehfofmjcjaaDoor
open Go.RowKit
set_option linter.unusedVariables false
set_option linter.unusedSimpArgs false
theorem RMOk.below {w w' : World} {x : RM} (h : RMOk w x) (hb : Below w.heap.size w w') : RMOk w' x :=
  ⟨h.kind, h.id, h.alias_, h.sg, h.so, h.eg, h.eo, h.code, h.n, h.ver, h.prio, h.ord, ⟨⟨h.nm.1.rd.below hb, h.nm.1.le, h.nm.1.max, h.nm.1.nil⟩, h.nm.2⟩, ⟨⟨h.rs.1.rd.below hb, h.rs.1.le, h.rs.1.max, h.rs.1.nil⟩, h.rs.2⟩, ⟨h.vs.rd.below hb, h.vs.ok, h.vs.le, h.vs.max, h.vs.nil⟩⟩
theorem RMOk.pos {w : World} {x : RM} (h : RMOk w x) : ∀ y ∈ numsM (cutM x.m), 0 ≤ y := by
  intro y hy
  unfold numsM cutM at hy
  simp only [List.mem_append, List.mem_cons, List.not_mem_nil, or_false] at hy
  rcases hy with (rfl | rfl | rfl | rfl | rfl | rfl | rfl | rfl | rfl) | hy
  · exact h.id.1
  · exact h.alias_.1
  · exact h.code.1
  · exact h.n.1
  · exact h.ver.1
  · exact h.sg.1
  · exact h.so.1
  · exact h.eg.1
  · exact h.eo.1
  · exact (wf_u64 (h.vs.ok y (List.mem_of_mem_take hy))).1
theorem cutM_lens (m : MV) : (cutM m).name.length ≤ 40 ∧ (cutM m).reason.length ≤ 80 ∧ (cutM m).vers.length ≤ 12 := by
  unfold cutM
  simp only [List.length_take]
  omega
/-- What a message that came in needs, to be written by the reference. -/
theorem refB_of {w w2 : World} {x : RM} (hx : RMOk w x) {nA rA vA : Option Addr} {nc rc vc base : Nat} (h1 : Own w2 base nA nc (cutM x.m).name) (h2 : Own w2 base rA rc (cutM x.m).reason) (h3 : OwnU w2 base vA vc (cutM x.m).vers) :
    Calls Tryd.prog 12 #[.agg (mvC (cutM x.m) nA nc rA rc vA vc)] w2 fun r w' => RBytesTo w2 w' (cutM x.m) r :=
  have hl := cutM_lens x.m
  refBytesW_any (cutM x.m) nA nc rA rc vA vc w2 (Rd.of_own h1) (Rd.of_own h2) (OwnV.reads h3) (fun y hy => hx.nm.2 y (List.mem_of_mem_take hy)) (fun y hy => hx.rs.2 y (List.mem_of_mem_take hy)) (by omega) (by omega) hl.2.2
    (fun h => inM_of (by rw [← right_valid]; exact h) hx.pos)
theorem encM_len {m : MV} (h : GoodV m) (hk : knW m.kind = true) : 3 ≤ (encM m).length ∧ (encM m).length ≤ 14000 := by
  have := encR_len (foW m.kind) h 13 (Nat.le_refl _)
  unfold encM
  rw [venc_kind hk]
  simp only [List.length_append, List.length_cons, List.length_nil]
  omega
/-- FewTo, the message named. -/
structure FewTo2 (w w' : World) (M : MV) (r : Ending) : Prop where
  ok : ∃ nA nc rA rc vA vc, r = .returned (.agg (mvC M nA nc rA rc vA vc)) ∧ Own w' w.heap.size nA nc M.name ∧ Own w' w.heap.size rA rc M.reason ∧ OwnU w' w.heap.size vA vc M.vers
  bel : Below w.heap.size w w'
structure ByM (m : MV) : Prop where
  name : Bytes m.name
  reason : Bytes m.reason
  prio : 0 ≤ m.prio ∧ m.prio < 256
  ord : 0 ≤ m.ord ∧ m.ord < 256
theorem venc_by8 {x : Int} (h : InR x) : Bytes (venc x) := (venc_le x h.1 h.2).2.2
theorem vencs_by {l : List Int} (h : ∀ x ∈ l, 0 ≤ x ∧ x < 4611686018427387904) : Bytes (vencs l) := by
  intro y hy
  unfold vencs at hy
  obtain ⟨x, hx, hy⟩ := List.mem_flatMap.1 hy
  exact venc_by8 (h x hx) y hy
theorem vtext_by {l : List Int} (h : l.length ≤ 900) (hb : Bytes l) : Bytes (vtext l) := by
  unfold vtext
  exact (venc_by8 ⟨by omega, by omega⟩).append hb
theorem one_by {x : Int} (h : 0 ≤ x ∧ x < 256) : Bytes [x] := by
  intro y hy
  simp at hy
  rw [hy]
  exact h
theorem encF_by (k : Nat) (hk : k < 13) {m : MV} (h : GoodV m) (hb : ByM m) : Bytes (encF k m) := by
  rcases (show k = 0 ∨ k = 1 ∨ k = 2 ∨ k = 3 ∨ k = 4 ∨ k = 5 ∨ k = 6 ∨ k = 7 ∨ k = 8 ∨ k = 9 ∨ k = 10 ∨ k = 11 ∨ k = 12 by omega) with rfl | rfl | rfl | rfl | rfl | rfl | rfl | rfl | rfl | rfl | rfl | rfl | rfl
  · exact venc_by8 h.id
  · exact venc_by8 h.alias_
  · exact vtext_by h.name hb.name
  · exact one_by hb.prio
  · exact one_by hb.ord
  · exact one_by (by unfold bitI; split <;> decide)
  · exact (venc_by8 h.sg).append (venc_by8 h.so)
  · show Bytes (if m.kind == 3 then venc m.eg else venc m.eg ++ venc m.eo)
    split
    · exact venc_by8 h.eg
    · exact (venc_by8 h.eg).append (venc_by8 h.eo)
  · exact venc_by8 h.code
  · exact vtext_by h.reason hb.reason
  · exact (venc_by8 (x := (m.vers.length : Int)) ⟨by omega, by have := h.vl; omega⟩).append (vencs_by h.vers)
  · exact venc_by8 h.ver
  · exact venc_by8 h.n
theorem encR_by (own : Int) {m : MV} (h : GoodV m) (hb : ByM m) : ∀ k, k ≤ 13 → Bytes (encR own m k)
  | 0, _ => Bytes.nil
  | k + 1, hk => by
    unfold encR
    refine (encR_by own h hb k (by omega)).append ?_
    split
    · exact encF_by k (by omega) h hb
    · exact Bytes.nil
theorem encM_bytes {m : MV} (h : GoodV m) (hk : knW m.kind = true) (hb : ByM m) : Bytes (encM m) := by
  have hl := encR_len (foW m.kind) h 13 (Nat.le_refl _)
  have h1 := encR_by (foW m.kind) h hb 13 (Nat.le_refl _)
  have h2 := own_in hk
  unfold encM
  rw [venc_kind hk]
  refine (one_by ⟨h2.2.1, by omega⟩).append (Bytes.append ?_ h1)
  intro y hy
  simp at hy
  rcases hy with rfl | rfl <;> omega
theorem RMOk.bym {w : World} {x : RM} (h : RMOk w x) : ByM (cutM x.m) :=
  ⟨fun y hy => h.nm.2 y (List.mem_of_mem_take hy), fun y hy => h.rs.2 y (List.mem_of_mem_take hy), h.prio, h.ord⟩
theorem wf_u16W {a : Int} (h : (Lit.int .u16 a).wf = true) : 0 ≤ a ∧ a < 65536 := by
  have h1 : IntKind.u16.min = 0 := rfl
  have h2 : IntKind.u16.max = 65535 := rfl
  simp [Lit.wf] at h
  omega
set_option maxRecDepth 100000 in
set_option maxHeartbeats 3200000 in
theorem cuts15_walk (x : RM) (a : Int) (w : World) (ht : Tab w) (hx : RMOk w x) (wa : (Lit.int .u16 a).wf = true) :
    Calls Tryd.prog 5 #[.agg x.val, .int .u16 a] w fun r w' => r = .returned (.bool true) ∧ Below w.heap.size w w' := by
  have ha : 0 ≤ a ∧ a < 65536 := by have := wf_u16W wa; exact this
  obtain ⟨W, hW⟩ : ∃ W, W = w.alloc (.cells x.val 28) := ⟨_, rfl⟩
  have bw : Below w.heap.size w W := by rw [hW]; exact (Below.refl _ _).alloc (Nat.le_refl _) _
  have km : Blk W w.heap.size 28 x.val := by rw [hW]; exact Blk.new _ _ _
  have AW := Lib.hid (awake15_any W (ht.below bw))
  have FW := Lib.hid (fun W' (h : Below w.heap.size w W') => fewW_any x W' (hx.below h))
  have RB := Lib.hid (fun w2 nA nc rA rc vA vc base h1 h2 h3 => refB_of (w2 := w2) hx (nA := nA) (nc := nc) (rA := rA) (rc := rc) (vA := vA) (vc := vc) (base := base) h1 h2 h3)
  have HRV := Lib.hid (show rightM (cutM x.m) = true → validB (cutM x.m) = true ∧ GoodV (cutM x.m) ∧ refB (cutM x.m) = encM (cutM x.m) ∧ Bytes (encM (cutM x.m)) from fun h => by
    have hv : validB (cutM x.m) = true := by rw [← right_valid]; exact h
    exact ⟨hv, goodV_of hv hx.pos, refB_enc _ (valid_kind hv), encM_bytes (goodV_of hv hx.pos) (valid_kind hv) hx.bym⟩)
  have KM := Lib.hid km
  have BW := Lib.hid bw
  obtain ⟨M, hM⟩ : ∃ M, M = cutM x.m := ⟨_, rfl⟩
  rw [← hM] at RB HRV
  have FW2 := Lib.hid (fun W' h => (FW.out W' h).mono fun r w' (q : FewTo W' w' _ r) => (show FewTo2 W' w' M r from by rw [hM]; exact ⟨q.ok, q.bel⟩))
  obtain ⟨⟨kind, id, alias_, name, prio, ord, sg, so, eg, eo, some_, code, reason, n, ver, vers⟩, nA, nc, rA, rc, vA, vc⟩ := x
  unfold RM.val mvC at hW KM FW2 ⊢
  simp only at hW KM FW2 ⊢
  have HW := Lib.hid hW
  clear hW bw km ht hx wa FW hM
  go_enter Tryd.func5, Tryd.ntmps5
  go_wp2_with fail
  rw [← HW.out]
  refine AW.out.mono ?_
  rintro e w1 ⟨rfl, b1⟩
  have k1 := KM.out.below b1 KM.out.lt
  have B1 := Lib.hid (BW.out.trans (b1.mono BW.out.size))
  have z1 := k1.lt
  have c0 := k1.cell 0
  have c1 := k1.cell 1
  have c2 := k1.cell 2
  have c3 := k1.cell 3
  have c4 := k1.cell 4
  have c5 := k1.cell 5
  have c6 := k1.cell 6
  have c7 := k1.cell 7
  have c8 := k1.cell 8
  have c9 := k1.cell 9
  have c10 := k1.cell 10
  have c11 := k1.cell 11
  have c12 := k1.cell 12
  have c13 := k1.cell 13
  have c14 := k1.cell 14
  have c15 := k1.cell 15
  simp only [List.getElem?_toArray, List.getElem?_cons_zero, List.getElem?_cons_succ] at c0 c1 c2 c3 c4 c5 c6 c7 c8 c9 c10 c11 c12 c13 c14 c15
  clear k1 b1 AW KM HW BW
  go_wp2_with fail
  refine (FW2.out _ B1.out).mono ?_
  rintro e w2 h2
  obtain ⟨nA2, nc2, rA2, rc2, vA2, vc2, rfl, o1, o2, o3⟩ := h2.ok
  have B2 := Lib.hid (B1.out.trans (h2.bel.mono B1.out.size))
  have RB2 := Lib.hid (RB.out w2 nA2 nc2 rA2 rc2 vA2 vc2 _ o1 o2 o3)
  clear h2 o1 o2 o3 FW2 RB B1 c0 c1 c2 c3 c4 c5 c6 c7 c8 c9 c10 c11 c12 c13 c14 c15 z1
  go_wp2_with fail
  refine RB2.out.mono ?_
  rintro e w3 h3
  have B3 := Lib.hid (B2.out.trans (h3.bel.mono B2.out.size))
  cases hrt : rightM M with
  | false =>
    obtain rfl := h3.no hrt
    clear h3 RB2 B2
    go_wp2_with fail
    go_ret
    exact ⟨rfl, B3.out⟩
  | true =>
    obtain ⟨A4, c4, rfl, o4⟩ := h3.ok hrt
    obtain ⟨hv, hg, he, hby⟩ := HRV.out hrt
    rw [he] at o4 ⊢
    have hl := encM_len hg (valid_kind hv)
    have hcut := Lib.hid (fun i hi => read_cut hv i hi)
    have HB := Lib.hid hby
    obtain ⟨L, hL⟩ : ∃ L, L = encM M := ⟨_, rfl⟩
    rw [← hL] at o4 hl hcut HB ⊢
    obtain ⟨k, hk⟩ : ∃ k : Nat, a % (L.length : Int) = (k : Int) := ⟨(a % (L.length : Int)).toNat, by have := Int.emod_nonneg a (b := (L.length : Int)) (by omega); omega⟩
    have hkl : k < L.length := by have := Int.emod_lt_of_pos a (b := (L.length : Int)) (by omega); omega
    have hkt : Int.tmod a (L.length : Int) = (k : Int) := by rw [Int.tmod_eq_emod_of_nonneg ha.1]; exact hk
    have hcap := (OwnV.capW (show OwnV w3 w2.heap.size 5 1 A4 c4 L.length (U8 L) from o4)).1
    obtain ⟨A5, hs1, hs2, hs3⟩ := slice_upto A4 c4 L k .i64 (Nat.le_of_lt hkl) hcap
    have sl := Sl.of_own o4
    have htl : (L.take k).length = k := by rw [List.length_take]; omega
    have hsl : Sl w3 A5 c4 (L.take k) := ⟨hs2 w3 sl.rd, by omega, sl.max, fun e => sl.nil (hs3 e)⟩
    have RD := Lib.hid (Read_any A5 c4 (L.take k) w3 hsl (fun y hy => HB.out y (List.mem_of_mem_take hy)) (by omega))
    have HC := Lib.hid (hcut.out k hkl)
    have hl1 := hl.1
    obtain ⟨Tk, hTk⟩ : ∃ T, T = L.take k := ⟨_, rfl⟩
    rw [← hTk] at hs1 RD HC
    clear hTk htl h3 RB2 B2 hv hg he hby hL sl hsl hs2 hs3 o4 hcut HB HRV hl hcap hrt
    go_wp2_with fail
    refine RD.out.mono ?_
    rintro e w5 h5
    obtain rfl := h5.no 2 HC.out
    have B5 := Lib.hid (B3.out.trans (h5.bel.mono B3.out.size))
    clear h5 RD
    unfold zeroM mvC mv0
    simp only [List.length_nil]
    go_wp2_with fail
    go_ret
    exact ⟨rfl, B5.out.alloc B5.out.size _⟩
end Go.Proofs.YtmicehfofmjcjaaDoor
