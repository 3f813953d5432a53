/-
  WordCuts.
-/
import Derived.Test.YtfedofoadfipcaaDoorWrdG
import Derived.Test.YtfedofoadfipcaaDoorWordR
import Derived.Test.YtfedofoadfipcaaDoorWordS
import Derived.Deep.DeepCutAuto
import Derived.Deep.RegionHeld
import Derived.Deep.MidRow
namespace Go.Proofs.YtfedofoadfipcaaDoor
open Go.RowKit
set_option linter.unusedVariables false
set_option linter.unusedSimpArgs false
theorem RMOk.below {w w' : World} {x : RM} (h : RMOk w x) (hb : Below w.heap.size w w') : RMOk w' x :=
  ⟨h.kind, h.id, h.alias_, h.sg, h.so, h.eg, h.eo, h.code, h.n, h.ver, h.prio, h.ord, ⟨⟨h.nm.1.rd.below hb, h.nm.1.le, h.nm.1.max, h.nm.1.nil⟩, h.nm.2⟩, ⟨⟨h.rs.1.rd.below hb, h.rs.1.le, h.rs.1.max, h.rs.1.nil⟩, h.rs.2⟩, ⟨h.vs.rd.below hb, h.vs.ok, h.vs.le, h.vs.max, h.vs.nil⟩⟩
theorem RMOk.pos {w : World} {x : RM} (h : RMOk w x) : ∀ y ∈ numsM (cutM x.m), 0 ≤ y := by
  intro y hy
  unfold numsM cutM at hy
  simp only [List.mem_append, List.mem_cons, List.not_mem_nil, or_false] at hy
  rcases hy with (rfl | rfl | rfl | rfl | rfl | rfl | rfl | rfl | rfl) | hy
  · exact h.id.1
  · exact h.alias_.1
  · exact h.code.1
  · exact h.n.1
  · exact h.ver.1
  · exact h.sg.1
  · exact h.so.1
  · exact h.eg.1
  · exact h.eo.1
  · exact (wf_u64 (h.vs.ok y (List.mem_of_mem_take hy))).1
theorem cutM_lens (m : MV) : (cutM m).name.length ≤ 40 ∧ (cutM m).reason.length ≤ 80 ∧ (cutM m).vers.length ≤ 12 := by
  unfold cutM
  simp only [List.length_take]
  omega
/-- What a message that came in needs, to be written by the reference. -/
theorem refB_of {w w2 : World} {x : RM} (hx : RMOk w x) {nA rA vA : Option Addr} {nc rc vc base : Nat} (h1 : Own w2 base nA nc (cutM x.m).name) (h2 : Own w2 base rA rc (cutM x.m).reason) (h3 : OwnU w2 base vA vc (cutM x.m).vers) :
    Calls Tryd.prog 12 #[.agg (mvC (cutM x.m) nA nc rA rc vA vc)] w2 fun r w' => RBytesTo w2 w' (cutM x.m) r :=
  have hl := cutM_lens x.m
  refBytesW_any (cutM x.m) nA nc rA rc vA vc w2 (Rd.of_own h1) (Rd.of_own h2) (OwnV.reads h3) (fun y hy => hx.nm.2 y (List.mem_of_mem_take hy)) (fun y hy => hx.rs.2 y (List.mem_of_mem_take hy)) (by omega) (by omega) hl.2.2
    (fun h => inM_of (by rw [← right_valid]; exact h) hx.pos)
theorem encM_len {m : MV} (h : GoodV m) (hk : knW m.kind = true) : 3 ≤ (encM m).length ∧ (encM m).length ≤ 14000 := by
  have := encR_len (foW m.kind) h 13 (Nat.le_refl _)
  unfold encM
  rw [venc_kind hk]
  simp only [List.length_append, List.length_cons, List.length_nil]
  omega
/-- FewTo, the message named. -/
structure FewTo2 (w w' : World) (M : MV) (r : Ending) : Prop where
  ok : ∃ nA nc rA rc vA vc, r = .returned (.agg (mvC M nA nc rA rc vA vc)) ∧ Own w' w.heap.size nA nc M.name ∧ Own w' w.heap.size rA rc M.reason ∧ OwnU w' w.heap.size vA vc M.vers
  bel : Below w.heap.size w w'
structure ByM (m : MV) : Prop where
  name : Bytes m.name
  reason : Bytes m.reason
  prio : 0 ≤ m.prio ∧ m.prio < 256
  ord : 0 ≤ m.ord ∧ m.ord < 256
theorem venc_by8 {x : Int} (h : InR x) : Bytes (venc x) := (venc_le x h.1 h.2).2.2
theorem vencs_by {l : List Int} (h : ∀ x ∈ l, 0 ≤ x ∧ x < 4611686018427387904) : Bytes (vencs l) := by
  intro y hy
  unfold vencs at hy
  obtain ⟨x, hx, hy⟩ := List.mem_flatMap.1 hy
  exact venc_by8 (h x hx) y hy
theorem vtext_by {l : List Int} (h : l.length ≤ 900) (hb : Bytes l) : Bytes (vtext l) := by
  unfold vtext
  exact (venc_by8 ⟨by omega, by omega⟩).append hb
theorem one_by {x : Int} (h : 0 ≤ x ∧ x < 256) : Bytes [x] := by
  intro y hy
  simp at hy
  rw [hy]
  exact h
theorem encF_by (k : Nat) (hk : k < 13) {m : MV} (h : GoodV m) (hb : ByM m) : Bytes (encF k m) := by
  rcases (show k = 0 ∨ k = 1 ∨ k = 2 ∨ k = 3 ∨ k = 4 ∨ k = 5 ∨ k = 6 ∨ k = 7 ∨ k = 8 ∨ k = 9 ∨ k = 10 ∨ k = 11 ∨ k = 12 by omega) with rfl | rfl | rfl | rfl | rfl | rfl | rfl | rfl | rfl | rfl | rfl | rfl | rfl
  · exact venc_by8 h.id
  · exact venc_by8 h.alias_
  · exact vtext_by h.name hb.name
  · exact one_by hb.prio
  · exact one_by hb.ord
  · exact one_by (by unfold bitI; split <;> decide)
  · exact (venc_by8 h.sg).append (venc_by8 h.so)
  · show Bytes (if m.kind == 3 then venc m.eg else venc m.eg ++ venc m.eo)
    split
    · exact venc_by8 h.eg
    · exact (venc_by8 h.eg).append (venc_by8 h.eo)
  · exact venc_by8 h.code
  · exact vtext_by h.reason hb.reason
  · exact (venc_by8 (x := (m.vers.length : Int)) ⟨by omega, by have := h.vl; omega⟩).append (vencs_by h.vers)
  · exact venc_by8 h.ver
  · exact venc_by8 h.n
theorem encR_by (own : Int) {m : MV} (h : GoodV m) (hb : ByM m) : ∀ k, k ≤ 13 → Bytes (encR own m k)
  | 0, _ => Bytes.nil
  | k + 1, hk => by
    unfold encR
    refine (encR_by own h hb k (by omega)).append ?_
    split
    · exact encF_by k (by omega) h hb
    · exact Bytes.nil
theorem encM_bytes {m : MV} (h : GoodV m) (hk : knW m.kind = true) (hb : ByM m) : Bytes (encM m) := by
  have hl := encR_len (foW m.kind) h 13 (Nat.le_refl _)
  have h1 := encR_by (foW m.kind) h hb 13 (Nat.le_refl _)
  have h2 := own_in hk
  unfold encM
  rw [venc_kind hk]
  refine (one_by ⟨h2.2.1, by omega⟩).append (Bytes.append ?_ h1)
  intro y hy
  simp at hy
  rcases hy with rfl | rfl <;> omega
theorem RMOk.bym {w : World} {x : RM} (h : RMOk w x) : ByM (cutM x.m) :=
  ⟨fun y hy => h.nm.2 y (List.mem_of_mem_take hy), fun y hy => h.rs.2 y (List.mem_of_mem_take hy), h.prio, h.ord⟩
theorem wf_u16W {a : Int} (h : (Lit.int .u16 a).wf = true) : 0 ≤ a ∧ a < 65536 := by
  have h1 : IntKind.u16.min = 0 := rfl
  have h2 : IntKind.u16.max = 65535 := rfl
  simp [Lit.wf] at h
  omega
set_option maxRecDepth 100000 in
set_option maxHeartbeats 3200000 in
theorem cuts15_walk (x : RM) (a : Int) (w : World) (ht : Tab w) (hx : RMOk w x) (wa : (Lit.int .u16 a).wf = true) :
    Calls Tryd.prog 5 #[.agg x.val, .int .u16 a] w fun r w' => r = .returned (.bool true) ∧ Below w.heap.size w w' := by
  have ha : 0 ≤ a ∧ a < 65536 := by have := wf_u16W wa; exact this
  obtain ⟨W, hW⟩ : ∃ W, W = w.alloc (.cells x.val 28) := ⟨_, rfl⟩
  have bw : Below w.heap.size w W := by rw [hW]; exact (Below.refl _ _).alloc (Nat.le_refl _) _
  have km : Blk W w.heap.size 28 x.val := by rw [hW]; exact Blk.new _ _ _
  have AW := Lib.hid (awake15_any W (ht.below bw))
  have FW := Lib.hid (fun W' (h : Below w.heap.size w W') => fewW_any x W' (hx.below h))
  have RB := Lib.hid (fun w2 nA nc rA rc vA vc base h1 h2 h3 => refB_of (w2 := w2) hx (nA := nA) (nc := nc) (rA := rA) (rc := rc) (vA := vA) (vc := vc) (base := base) h1 h2 h3)
  have HRV := Lib.hid (show rightM (cutM x.m) = true → validB (cutM x.m) = true ∧ GoodV (cutM x.m) ∧ refB (cutM x.m) = encM (cutM x.m) ∧ Bytes (encM (cutM x.m)) from fun h => by
    have hv : validB (cutM x.m) = true := by rw [← right_valid]; exact h
    exact ⟨hv, goodV_of hv hx.pos, refB_enc _ (valid_kind hv), encM_bytes (goodV_of hv hx.pos) (valid_kind hv) hx.bym⟩)
  have KM := Lib.hid km
  have BW := Lib.hid bw
  obtain ⟨M, hM⟩ : ∃ M, M = cutM x.m := ⟨_, rfl⟩
  rw [← hM] at RB HRV
  have FW2 := Lib.hid (fun W' h => (FW.out W' h).mono fun r w' (q : FewTo W' w' _ r) => (show FewTo2 W' w' M r from by rw [hM]; exact ⟨q.ok, q.bel⟩))
  obtain ⟨⟨kind, id, alias_, name, prio, ord, sg, so, eg, eo, some_, code, reason, n, ver, vers⟩, nA, nc, rA, rc, vA, vc⟩ := x
  unfold RM.val mvC at hW KM FW2 ⊢
  simp only at hW KM FW2 ⊢
  have HW := Lib.hid hW
  clear hW bw km ht hx wa FW hM
  go_enter Tryd.func5, Tryd.ntmps5
  go_wp2_with fail
  rw [← HW.out]
  refine AW.out.mono ?_
  rintro e w1 ⟨rfl, b1⟩
  have k1 := KM.out.below b1 KM.out.lt
  have B1 := Lib.hid (BW.out.trans (b1.mono BW.out.size))
  have z1 := k1.lt
  have c0 := k1.cell 0
  have c1 := k1.cell 1
  have c2 := k1.cell 2
  have c3 := k1.cell 3
  have c4 := k1.cell 4
  have c5 := k1.cell 5
  have c6 := k1.cell 6
  have c7 := k1.cell 7
  have c8 := k1.cell 8
  have c9 := k1.cell 9
  have c10 := k1.cell 10
  have c11 := k1.cell 11
  have c12 := k1.cell 12
  have c13 := k1.cell 13
  have c14 := k1.cell 14
  have c15 := k1.cell 15
  simp only [List.getElem?_toArray, List.getElem?_cons_zero, List.getElem?_cons_succ] at c0 c1 c2 c3 c4 c5 c6 c7 c8 c9 c10 c11 c12 c13 c14 c15
  clear k1 b1 AW KM HW BW
  go_wp2_with fail
  refine (FW2.out _ B1.out).mono ?_
  rintro e w2 h2
  obtain ⟨nA2, nc2, rA2, rc2, vA2, vc2, rfl, o1, o2, o3⟩ := h2.ok
  have B2 := Lib.hid (B1.out.trans (h2.bel.mono B1.out.size))
  have RB2 := Lib.hid (RB.out w2 nA2 nc2 rA2 rc2 vA2 vc2 _ o1 o2 o3)
  clear h2 o1 o2 o3 FW2 RB B1 c0 c1 c2 c3 c4 c5 c6 c7 c8 c9 c10 c11 c12 c13 c14 c15 z1
  go_wp2_with fail
  refine RB2.out.mono ?_
  rintro e w3 h3
  have B3 := Lib.hid (B2.out.trans (h3.bel.mono B2.out.size))
  cases hrt : rightM M with
  | false =>
    obtain rfl := h3.no hrt
    clear h3 RB2 B2
    go_wp2_with fail
    go_ret
    exact ⟨rfl, B3.out⟩
  | true =>
    obtain ⟨A4, c4, rfl, o4⟩ := h3.ok hrt
    obtain ⟨hv, hg, he, hby⟩ := HRV.out hrt
    rw [he] at o4 ⊢
    have hl := encM_len hg (valid_kind hv)
    have hcut := Lib.hid (fun i hi => read_cut hv i hi)
    have HB := Lib.hid hby
    obtain ⟨L, hL⟩ : ∃ L, L = encM M := ⟨_, rfl⟩
    rw [← hL] at o4 hl hcut HB ⊢
    obtain ⟨k, hk⟩ : ∃ k : Nat, a % (L.length : Int) = (k : Int) := ⟨(a % (L.length : Int)).toNat, by have := Int.emod_nonneg a (b := (L.length : Int)) (by omega); omega⟩
    have hkl : k < L.length := by have := Int.emod_lt_of_pos a (b := (L.length : Int)) (by omega); omega
    have hkt : Int.tmod a (L.length : Int) = (k : Int) := by rw [Int.tmod_eq_emod_of_nonneg ha.1]; exact hk
    have hcap := (OwnV.capW (show OwnV w3 w2.heap.size 5 1 A4 c4 L.length (U8 L) from o4)).1
    obtain ⟨A5, hs1, hs2, hs3⟩ := slice_upto A4 c4 L k .i64 (Nat.le_of_lt hkl) hcap
    have sl := Sl.of_own o4
    have htl : (L.take k).length = k := by rw [List.length_take]; omega
    have hsl : Sl w3 A5 c4 (L.take k) := ⟨hs2 w3 sl.rd, by omega, sl.max, fun e => sl.nil (hs3 e)⟩
    have RD := Lib.hid (Read_any A5 c4 (L.take k) w3 hsl (fun y hy => HB.out y (List.mem_of_mem_take hy)) (by omega))
    have HC := Lib.hid (hcut.out k hkl)
    have hl1 := hl.1
    obtain ⟨Tk, hTk⟩ : ∃ T, T = L.take k := ⟨_, rfl⟩
    rw [← hTk] at hs1 RD HC
    clear hTk htl h3 RB2 B2 hv hg he hby hL sl hsl hs2 hs3 o4 hcut HB HRV hl hcap hrt
    go_wp2_with fail
    refine RD.out.mono ?_
    rintro e w5 h5
    obtain rfl := h5.no 2 HC.out
    have B5 := Lib.hid (B3.out.trans (h5.bel.mono B3.out.size))
    clear h5 RD
    unfold zeroM mvC mv0
    simp only [List.length_nil]
    go_wp2_with fail
    go_ret
    exact ⟨rfl, B5.out.alloc B5.out.size _⟩
end Go.Proofs.YtfedofoadfipcaaDoor

/-
  WordJoins: what stays true while the messages are written one behind the other.
-/
namespace Go.Proofs.YtfedofoadfipcaaDoor
open Go.RowKit
set_option linter.unusedVariables false
set_option linter.unusedSimpArgs false
theorem RMC_len (x : RM) : (RMC x).length = 16 := rfl
theorem RMC_one (x : RM) : ∀ u ∈ RMC x, u.oneCell' = true := fun u hu => by
  have := mvC_one x.m x.nA x.nc x.rA x.rc x.vA x.vc
  rw [Array.all_eq_true_iff_forall_mem] at this
  exact this u (Array.mem_toList_iff.1 hu)
theorem FlV_RMC_one (l : List RM) : ∀ u ∈ FlV RMC l, u.oneCell' = true := FlV_oneCell RMC RMC_one l
/-- A message that is wanted: its rows are none of the bytes' own block pv. -/
structure JM (w : World) (B : Nat) (pv : Option Nat) (x : RM) : Prop where
  nm : Own w B x.nA x.nc x.m.name
  rs : Own w B x.rA x.rc x.m.reason
  vs : OwnU w B x.vA x.vc x.m.vers
  n1 : ∀ kk, (Value.slice x.nA x.m.name.length x.nc).ownBlock = some kk → pv ≠ some kk
  n2 : ∀ kk, (Value.slice x.rA x.m.reason.length x.rc).ownBlock = some kk → pv ≠ some kk
/-- .. by value. -/
structure JP (x : RM) : Prop where
  valid : validB x.m = true
  good : GoodV x.m
  by_ : ByM x.m
theorem JM.below {w w' : World} {B : Nat} {pv : Option Nat} {x : RM} (h : JM w B pv x) (hb : Below w.heap.size w w') : JM w' B pv x :=
  ⟨h.nm.below hb, h.rs.below hb, OwnV.below h.vs hb, h.n1, h.n2⟩
theorem JM.appP {w w' : World} {B : Nat} {x : RM} {A A' : Option Addr} {c c' n n' : Nat} {xs : List Value} (h : JM w B (Value.slice A n c).ownBlock x) (hp : OwnV w B 5 1 A c n xs) (hg : w.grownBy w' (Value.slice A n c).ownBlock)
    (hd : (Value.slice A' n' c').ownBlock = (Value.slice A n c).ownBlock ∨ (Value.slice A' n' c').ownBlock = some w.heap.size) : JM w' B (Value.slice A' n' c').ownBlock x :=
  ⟨OwnV.apart (show OwnV w B 5 1 x.nA x.nc x.m.name.length (U8 x.m.name) from h.nm) hg (fun kk hk e => h.n1 kk hk e), OwnV.apart (show OwnV w B 5 1 x.rA x.rc x.m.reason.length (U8 x.m.reason) from h.rs) hg (fun kk hk e => h.n2 kk hk e),
    OwnV.grown h.vs hg (fun g cur hb => OwnV.other hp (by decide) g cur hb),
    fun kk hk e => by
      rcases hd with hd | hd
      · rw [hd] at e; exact h.n1 kk hk e
      · rw [hd] at e; injection e with e; have := OwnV.row_lt (show OwnV w B 5 1 x.nA x.nc x.m.name.length (U8 x.m.name) from h.nm) hk; omega,
    fun kk hk e => by
      rcases hd with hd | hd
      · rw [hd] at e; exact h.n2 kk hk e
      · rw [hd] at e; injection e with e; have := OwnV.row_lt (show OwnV w B 5 1 x.rA x.rc x.m.reason.length (U8 x.m.reason) from h.rs) hk; omega⟩
theorem JM.appW {w w' : World} {B : Nat} {pv : Option Nat} {x : RM} {A : Option Addr} {c n : Nat} {xs : List Value} (h : JM w B pv x) (hw : OwnV w B 28 16 A c n xs) (hg : w.grownBy w' (Value.slice A n c).ownBlock) : JM w' B pv x :=
  ⟨h.nm.grown hg (fun g cur hb => OwnV.other hw (by decide) g cur hb), h.rs.grown hg (fun g cur hb => OwnV.other hw (by decide) g cur hb), OwnV.grown h.vs hg (fun g cur hb => OwnV.other hw (by decide) g cur hb), h.n1, h.n2⟩
/-- Where the first loop stands: the bytes P of the messages W. -/
structure JI (B : Nat) (wr : World) (W : List RM) (P : List Int) (pA : Option Addr) (pc : Nat) (wA : Option Addr) (wc : Nat) : Prop where
  bp : Own wr B pA pc P
  bw : OwnF RMC 16 28 wr B wA wc W
  ms : ∀ x ∈ W, JM wr B (Value.slice pA P.length pc).ownBlock x
  ps : ∀ x ∈ W, JP x
  eq : P = W.flatMap fun x => encM x.m
  z : B ≤ wr.heap.size
theorem JI.below {B : Nat} {wr w' : World} {W : List RM} {P : List Int} {pA : Option Addr} {pc : Nat} {wA : Option Addr} {wc : Nat} (h : JI B wr W P pA pc wA wc) (hb : Below wr.heap.size wr w') : JI B w' W P pA pc wA wc :=
  ⟨h.bp.below hb, OwnV.below h.bw hb, fun x hx => (h.ms x hx).below hb, h.ps, h.eq, Nat.le_trans h.z hb.size⟩
theorem JI.set {B : Nat} {wr w' : World} {W : List RM} {P : List Int} {pA : Option Addr} {pc : Nat} {wA : Option Addr} {wc gm : Nat} {cs : Array Value} (h : JI B wr W P pA pc wA wc) (hg : wr.grownBy w' (some gm)) (kb : Blk wr gm 28 cs)
    (hne : ∀ kk, (Value.slice wA W.length wc).ownBlock = some kk → kk ≠ gm) : JI B w' W P pA pc wA wc :=
  have h8 : ∀ g cur, Blk wr g 5 cur → some gm ≠ some g := fun g cur hb e => by injection e with e; exact Blk.ne_ kb hb (by decide) e
  have h64 : ∀ g cur, Blk wr g 22 cur → some gm ≠ some g := fun g cur hb e => by injection e with e; exact Blk.ne_ kb hb (by decide) e
  ⟨h.bp.grown hg h8, OwnV.apart h.bw hg (fun kk hk e => by injection e with e; exact hne kk hk e.symm), fun x hx => have j := h.ms x hx; ⟨j.nm.grown hg h8, j.rs.grown hg h8, OwnV.grown j.vs hg h64, j.n1, j.n2⟩, h.ps, h.eq, Nat.le_trans h.z hg.size⟩
theorem flat_len {W : List RM} (h : ∀ x ∈ W, JP x) : (W.flatMap fun x => encM x.m).length ≤ 14000 * W.length := by
  induction W with
  | nil => simp
  | cons x W ih =>
    have h1 := ih (fun y hy => h y (List.mem_cons_of_mem _ hy))
    have hx := h x (by simp)
    have h2 := (encM_len hx.good (valid_kind hx.valid)).2
    simp only [List.flatMap_cons, List.length_append, List.length_cons]
    omega
theorem flat_by {W : List RM} (h : ∀ x ∈ W, JP x) : Bytes (W.flatMap fun x => encM x.m) := by
  intro y hy
  obtain ⟨x, hx, hy⟩ := List.mem_flatMap.1 hy
  have hj := h x hx
  exact encM_bytes hj.good (valid_kind hj.valid) hj.by_ y hy
/-- The state between the two appends. -/
structure JQ (B : Nat) (wr : World) (W : List RM) (x : RM) (P : List Int) (pA : Option Addr) (pc : Nat) (wA : Option Addr) (wc : Nat) (gm : Nat) : Prop where
  bp : Own wr B pA pc P
  bw : OwnF RMC 16 28 wr B wA wc W
  ms : ∀ y ∈ W ++ [x], JM wr B (Value.slice pA P.length pc).ownBlock y
  box : Blk wr gm 28 x.val
  nb : ∀ kk, (Value.slice wA W.length wc).ownBlock = some kk → kk ≠ gm
  z : B ≤ wr.heap.size
theorem JQ.below {B : Nat} {wr w' : World} {W : List RM} {x : RM} {P : List Int} {pA : Option Addr} {pc : Nat} {wA : Option Addr} {wc gm : Nat} (h : JQ B wr W x P pA pc wA wc gm) (hb : Below wr.heap.size wr w') : JQ B w' W x P pA pc wA wc gm :=
  ⟨h.bp.below hb, OwnV.below h.bw hb, fun y hy => (h.ms y hy).below hb, h.box.below hb h.box.lt, h.nb, Nat.le_trans h.z hb.size⟩
theorem JQ.appP {B : Nat} {wr w' : World} {W : List RM} {x : RM} {P P' : List Int} {pA : Option Addr} {pc : Nat} {wA : Option Addr} {wc gm : Nat} {pA' : Option Addr} {pc' : Nat} (h : JQ B wr W x P pA pc wA wc gm) (hp : Own w' B pA' pc' P') (hg : wr.grownBy w' (Value.slice pA P.length pc).ownBlock)
    (hd : (Value.slice pA' P'.length pc').ownBlock = (Value.slice pA P.length pc).ownBlock ∨ (Value.slice pA' P'.length pc').ownBlock = some wr.heap.size) : JQ B w' W x P' pA' pc' wA wc gm :=
  have hp0 : OwnV wr B 5 1 pA pc P.length (U8 P) := h.bp
  ⟨hp, OwnV.grown h.bw hg (fun g cur hb => OwnV.other hp0 (by decide) g cur hb), fun y hy => (h.ms y hy).appP hp0 hg hd, h.box.grown hg (fun e => OwnV.other hp0 (by decide) gm _ h.box e.symm), h.nb, Nat.le_trans h.z hg.size⟩
theorem reads_blk16 {w : World} {g : Nat} {T : TypeId} {cs : Array Value} (k : Blk w g T cs) (hs : cs.size = 16) : Reads w w.heap.size 16 (some ⟨g, 0, none⟩) 1 cs.toList := by
  refine ⟨by rw [Array.length_toList, hs], fun _ => ⟨_, rfl, k.lt, fun j u hu => ?_⟩⟩
  have := k.cell j
  simp only [Addr.add]
  split
  · rename_i hj; subst hj; rw [this]; simpa using hu
  · rw [Nat.zero_add, this]; simpa using hu
/-- A message that was just written goes on to the wanted ones. -/
theorem JQ.appW {B : Nat} {wr w' : World} {W : List RM} {x : RM} {P : List Int} {pA : Option Addr} {pc : Nat} {wA : Option Addr} {wc gm : Nat} {wA' : Option Addr} {wc' : Nat} (h : JQ B wr W x P pA pc wA wc gm) (hw : OwnF RMC 16 28 w' B wA' wc' (W ++ [x])) (hg : wr.grownBy w' (Value.slice wA W.length wc).ownBlock)
    (hps : ∀ y ∈ W, JP y) (hx : JP x) (he : P = (W.flatMap fun y => encM y.m) ++ encM x.m) : JI B w' (W ++ [x]) P pA pc wA' wc' :=
  have hw0 : OwnV wr B 28 16 wA wc W.length (FlV RMC W) := h.bw
  ⟨h.bp.grown hg (fun g cur hb => OwnV.other hw0 (by decide) g cur hb), hw, fun y hy => (h.ms y hy).appW hw0 hg, fun y hy => by
    rcases List.mem_append.1 hy with hy | hy
    · exact hps y hy
    · simp at hy; subst hy; exact hx, by rw [he, List.flatMap_append]; simp, Nat.le_trans h.z hg.size⟩
end Go.Proofs.YtfedofoadfipcaaDoor

/-
  WordJoins: the walk.
-/
namespace Go.Proofs.YtfedofoadfipcaaDoor
open Go.RowKit
set_option linter.unusedVariables false
set_option linter.unusedSimpArgs false
theorem info_rmsgW : ∃ Z, (Tryd.prog.info? 28).map (fun i => (i.zero, i.size, i.bytes)) = some (some Z, 16, 168) ∧ Z.cells.size = 16 := ⟨.agg #[.int .u64 0, .int .u64 0, .int .u64 0, .slice none 0 0, .int .u8 0, .int .u8 0, .int .u64 0, .int .u64 0, .int .u64 0, .int .u64 0, .bool false, .int .u64 0, .slice none 0 0, .int .u64 0, .int .u64 0, .slice none 0 0], by kernel_rfl, rfl⟩
/-- Where the second loop stands. -/
structure JR (w2 wr : World) (W : List RM) (j : Nat) (A : Option Addr) (c : Nat) : Prop where
  sl : Sl wr A c ((W.drop j).flatMap fun x => encM x.m)
  bel : Below w2.heap.size w2 wr
theorem flat_step {W : List RM} {j : Nat} {x : RM} (h : W[j]? = some x) : ((W.drop j).flatMap fun x => encM x.m) = encM x.m ++ ((W.drop (j + 1)).flatMap fun x => encM x.m) := by
  have hj : j < W.length := by
    rcases Nat.lt_or_ge j W.length with h1 | h1
    · exact h1
    · rw [List.getElem?_eq_none h1] at h; cases h
  rw [List.drop_eq_getElem_cons hj, List.flatMap_cons]
  rw [List.getElem?_eq_getElem hj] at h
  injection h with h
  rw [h]
/-- What the first loop keeps. -/
structure JK (w1 wr : World) (B : Nat) (W : List RM) (P : List Int) (pA : Option Addr) (pc : Nat) (wA : Option Addr) (wc : Nat) (i : Nat) : Prop where
  ji : JI B wr W P pA pc wA wc
  bel : Below B w1 wr
  wl : W.length ≤ 12
  wi : W.length ≤ i
set_option maxRecDepth 100000 in
set_option maxHeartbeats 6400000 in
theorem joins15_walk (A : Option Addr) (c : Nat) (l : List RM) (w : World) (ht : Tab w) (hr : RdT 16 RMC (RMOk w) w A l) (hc : l.length ≤ c) (hm : c ≤ 9223372036854775807) (hn : A = none → c = 0) :
    Calls Tryd.prog 7 #[.slice A l.length c] w fun r w' => r = .returned (.bool true) ∧ Below w.heap.size w w' := by
  have HR := Lib.hid hr
  have HT := Lib.hid ht
  have AW := Lib.hid (awake15_any w ht)
  clear hr ht
  go_enter Tryd.func7, Tryd.ntmps7
  go_wp2_with fail
  refine AW.out.mono ?_
  rintro e w1 ⟨rfl, b1⟩
  have B1 := Lib.hid b1
  obtain ⟨B, hB⟩ : ∃ B, B = w1.heap.size := ⟨_, rfl⟩
  have HB := Lib.hid hB
  have HBL := Lib.hid (show w.heap.size ≤ B by rw [hB]; exact b1.size)
  have HRF := Lib.hid (fun W' (hb : Below w.heap.size w W') => RdF.below (RdF.of_T (C := RMC) (k := 16) RMC_len (by omega) HR.out) hb)
  have HOK := Lib.hid (fun (i : Nat) (x : RM) (hx : l[i]? = some x) => HR.out.each x (List.mem_of_getElem? hx))
  have J0 := Lib.hid (show JK w1 w1 B [] [] none 0 none 0 0 from ⟨⟨Own.nil _ _, OwnF.nil _ _, fun x hx => (by cases hx), fun x hx => (by cases hx), rfl, by rw [hB]; exact Nat.le_refl _⟩, Below.refl _ _, Nat.zero_le _, Nat.zero_le _⟩)
  clear AW b1 HR hB
  go_wp2_with fail
  go_loopw [3, 4, 18] (fun pv wv iv wr => ∃ (i : Nat) (P : List Int) (W : List RM) (pA : Option Addr) (pc : Nat) (wA : Option Addr) (wc : Nat), pv = .slice pA P.length pc ∧ wv = .slice wA W.length wc ∧ iv = .int .i64 i ∧ i ≤ l.length ∧ Hid (JK w1 wr B W P pA pc wA wc i)) (fun _ _ iv _ => l.length - (intOf iv).toNat)
  case atStart => exact ⟨0, [], [], none, 0, none, 0, rfl, rfl, rfl, Nat.zero_le _, J0⟩
  case round =>
    obtain ⟨i, P, W, pA, pc, wA, wc, rfl, rfl, rfl, hi, HJ⟩ := hrel
    rename World => wr
    by_cases hlt : i < l.length
    · have hBr : Below w.heap.size w wr := B1.out.trans ((show Below w1.heap.size w1 wr by rw [← HB.out]; exact HJ.out.bel).mono B1.out.size)
      have hrf := HRF.out wr hBr
      obtain ⟨b0, off, x, hA, hlb, hx, hcell⟩ := RdF.at_ (C := RMC) (k := 16) RMC_len (by omega) hrf hlt
      subst hA
      obtain ⟨M, hM⟩ : ∃ M, M = cutM x.m := ⟨_, rfl⟩
      have b2 : Below wr.heap.size wr (wr.alloc (.cells x.val 28)) := (Below.refl _ _).alloc (Nat.le_refl _) _
      have hxo : RMOk w x := HOK.out i x hx
      have CF := Lib.hid ((fewW_any x (wr.alloc (.cells x.val 28)) (hxo.below (hBr.trans (b2.mono hBr.size)))).mono fun r w' (q : FewTo _ w' _ r) => (show FewTo2 (wr.alloc (.cells x.val 28)) w' M r from by rw [hM]; exact ⟨q.ok, q.bel⟩))
      have hpos : ∀ y ∈ numsM M, 0 ≤ y := by rw [hM]; exact hxo.pos
      have hlM := cutM_lens x.m
      have hbyM : ByM M := by rw [hM]; exact hxo.bym
      rw [← hM] at hlM
      have HBY := Lib.hid hbyM
      have HLM := Lib.hid hlM
      have HVG := Lib.hid (show validB M = true → GoodV M ∧ InR M.kind from fun h => ⟨goodV_of h hpos, (inM_of h hpos).kind⟩)
      have KB := Lib.hid (show Blk (wr.alloc (.cells x.val 28)) wr.heap.size 28 x.val from Blk.new _ _ _)
      have J2 := Lib.hid (HJ.out.ji.below b2)
      have B2 := Lib.hid (hBr.trans (b2.mono hBr.size))
      have HPV := Lib.hid (show ∀ kk, (Value.slice pA P.length pc).ownBlock = some kk → kk < wr.heap.size from fun kk hk => OwnV.row_lt (show OwnV wr B 5 1 pA pc P.length (U8 P) from HJ.out.ji.bp) hk)
      have HWV := Lib.hid (show ∀ kk, (Value.slice wA W.length wc).ownBlock = some kk → kk ≠ wr.heap.size from fun kk hk => Nat.ne_of_lt (OwnV.row_lt HJ.out.ji.bw hk))
      have HB2 := Lib.hid (HJ.out.bel.trans (b2.mono HJ.out.ji.z))
      have HWL := Lib.hid (And.intro HJ.out.wl HJ.out.wi)
      have HGM := Lib.hid HJ.out.ji.z
      have hzW : (wr.alloc (.cells x.val 28)).heap.size = wr.heap.size + 1 := by simp
      obtain ⟨W2, hW2⟩ : ∃ W2, W2 = wr.alloc (.cells x.val 28) := ⟨_, rfl⟩
      rw [← hW2] at CF KB J2 B2 HB2 hzW
      clear hxo hx hrf hBr HJ b2 hpos hlM hbyM hM
      obtain ⟨⟨kind, id, alias_, name, prio, ord, sg, so, eg, eo, some_, code, reason, n, ver, vers⟩, nA, nc, rA, rc, vA, vc⟩ := x
      have q0 := hcell 0 (by omega)
      have q1 := hcell 1 (by omega)
      have q2 := hcell 2 (by omega)
      have q3 := hcell 3 (by omega)
      have q4 := hcell 4 (by omega)
      have q5 := hcell 5 (by omega)
      have q6 := hcell 6 (by omega)
      have q7 := hcell 7 (by omega)
      have q8 := hcell 8 (by omega)
      have q9 := hcell 9 (by omega)
      have q10 := hcell 10 (by omega)
      have q11 := hcell 11 (by omega)
      have q12 := hcell 12 (by omega)
      have q13 := hcell 13 (by omega)
      have q14 := hcell 14 (by omega)
      have q15 := hcell 15 (by omega)
      simp [RMC, RM.val, mvC, ← Nat.add_assoc] at q0 q1 q2 q3 q4 q5 q6 q7 q8 q9 q10 q11 q12 q13 q14 q15
      unfold RM.val mvC at hW2 KB CF
      simp only at hW2 KB CF
      have HW2 := Lib.hid hW2
      obtain ⟨gm, hgm⟩ : ∃ g, g = wr.heap.size := ⟨_, rfl⟩
      clear hcell hW2
      go_upto_region 8 with (fail)
      rw [← HW2.out]
      rw [← hgm] at KB HPV HWV hzW HGM ⊢
      have kb := KB.out
      have zb := kb.lt
      have d0 := kb.cell 0
      have d1 := kb.cell 1
      have d2 := kb.cell 2
      have d3 := kb.cell 3
      have d4 := kb.cell 4
      have d5 := kb.cell 5
      have d6 := kb.cell 6
      have d7 := kb.cell 7
      have d8 := kb.cell 8
      have d9 := kb.cell 9
      have d10 := kb.cell 10
      have d11 := kb.cell 11
      have d12 := kb.cell 12
      have d13 := kb.cell 13
      have d14 := kb.cell 14
      have d15 := kb.cell 15
      simp only [List.getElem?_toArray, List.getElem?_cons_zero, List.getElem?_cons_succ] at d0 d1 d2 d3 d4 d5 d6 d7 d8 d9 d10 d11 d12 d13 d14 d15
      clear kb q0 q1 q2 q3 q4 q5 q6 q7 q8 q9 q10 q11 q12 q13 q14 q15 HW2 hgm
      go_wp2_with fail
      refine CF.out.mono ?_
      rintro e w3 h3
      obtain ⟨nA2, nc2, rA2, rc2, vA2, vc2, rfl, o1, o2, o3⟩ := h3.ok
      have b3 := h3.bel
      have K3 := Lib.hid (KB.out.below b3 KB.out.lt)
      have J3 := Lib.hid (J2.out.below b3)
      have HB3 := Lib.hid (HB2.out.trans (b3.mono (Nat.le_trans J2.out.z (Nat.le_refl _))))
      have B3 := Lib.hid (B2.out.trans (b3.mono B2.out.size))
      obtain ⟨MC, hMC⟩ : ∃ MC, MC = mvC M nA2 nc2 rA2 rc2 vA2 vc2 := ⟨_, rfl⟩
      have gs : w3.grownBy (w3.setRow gm MC) (some gm) := grow_rowW
      have hne8 : 5 ≠ 28 := by decide
      obtain ⟨w4, hw4⟩ : ∃ w4, w4 = w3.setRow gm MC := ⟨_, rfl⟩
      rw [← hw4] at gs
      have J4 := Lib.hid (J3.out.set gs K3.out HWV.out)
      have O4 := Lib.hid (show Own w4 W2.heap.size nA2 nc2 M.name ∧ Own w4 W2.heap.size rA2 rc2 M.reason ∧ OwnU w4 W2.heap.size vA2 vc2 M.vers from ⟨own_gsW o1 K3.out (by decide) gs, own_gsW o2 K3.out (by decide) gs, ownU_gsW o3 K3.out (by decide) gs⟩)
      have K4 := Lib.hid (show Blk w4 gm 28 MC by rw [hw4]; exact Blk.setRowPW K3.out)
      have HB4 := Lib.hid (below_gsW HB3.out gs HGM.out J3.out.z)
      have B4 := Lib.hid (below_gsW B3.out gs (Nat.le_trans HBL.out HGM.out) B3.out.size)
      have HM1 := Lib.hid (show MC.all (·.oneCell') = true by rw [hMC]; exact mvC_one _ _ _ _ _ _ _)
      have HMS := Lib.hid (show (Tryd.prog.info? 28).map (·.size) = some MC.size by rw [hMC]; exact info_rmsg)
      have HMC := Lib.hid hMC
      have HW4 := Lib.hid hw4
      have CB := Lib.hid (BytesW_any M nA2 nc2 rA2 rc2 vA2 vc2 w4.heap.size w4 ⟨HT.out.below B4.out, (HT.out.below B4.out).1, Nat.le_refl _⟩ HVG.out ⟨Rd.of_own O4.out.1, Rd.of_own O4.out.2.1, OwnV.reads O4.out.2.2⟩ (by have := HLM.out; omega) (by have := HLM.out; omega) (by have := HLM.out; omega))
      have hag : Value.agg MC = .agg #[.int .u64 M.kind, .int .u64 M.id, .int .u64 M.alias_, .slice nA2 M.name.length nc2, .int .u8 M.prio, .int .u8 M.ord, .int .u64 M.sg, .int .u64 M.so, .int .u64 M.eg, .int .u64 M.eo, .bool M.some_, .int .u64 M.code, .slice rA2 M.reason.length rc2, .int .u64 M.n, .int .u64 M.ver, .slice vA2 M.vers.length vc2] := by rw [hMC]; rfl
      have HAG := Lib.hid hag.symm
      clear hw4 hMC gs o1 o2 o3 h3 b3 hne8 d0 d1 d2 d3 d4 d5 d6 d7 d8 d9 d10 d11 d12 d13 d14 d15 zb hag CF KB
      go_upto_region 9 with (refine wpList_store_row rfl 28 (.tmp 6) (.tmp 24) rfl gm MC rfl (by rw [HMC.out]; rfl) 28 _ K3.out HMS.out (by rw [HMC.out]; rfl) HM1.out ?_)
      -- REST
      rw [← HW4.out]
      have k4 : Blk w4 gm 28 #[.int .u64 M.kind, .int .u64 M.id, .int .u64 M.alias_, .slice nA2 M.name.length nc2, .int .u8 M.prio, .int .u8 M.ord, .int .u64 M.sg, .int .u64 M.so, .int .u64 M.eg, .int .u64 M.eo, .bool M.some_, .int .u64 M.code, .slice rA2 M.reason.length rc2, .int .u64 M.n, .int .u64 M.ver, .slice vA2 M.vers.length vc2] := by have := K4.out; rw [HMC.out] at this; exact this
      have zb := k4.lt
      have d0 := k4.cell 0
      have d1 := k4.cell 1
      have d2 := k4.cell 2
      have d3 := k4.cell 3
      have d4 := k4.cell 4
      have d5 := k4.cell 5
      have d6 := k4.cell 6
      have d7 := k4.cell 7
      have d8 := k4.cell 8
      have d9 := k4.cell 9
      have d10 := k4.cell 10
      have d11 := k4.cell 11
      have d12 := k4.cell 12
      have d13 := k4.cell 13
      have d14 := k4.cell 14
      have d15 := k4.cell 15
      simp only [List.getElem?_toArray, List.getElem?_cons_zero, List.getElem?_cons_succ] at d0 d1 d2 d3 d4 d5 d6 d7 d8 d9 d10 d11 d12 d13 d14 d15
      clear k4
      go_wp2_with fail
      refine CB.out.mono ?_
      rintro e w5 h5
      have b5 := h5.bel
      have J5 := Lib.hid (J4.out.below b5)
      have HB5 := Lib.hid (HB4.out.trans (b5.mono J4.out.z))
      have K5 := Lib.hid (K4.out.below b5 K4.out.lt)
      have O5 := Lib.hid (And.intro (O4.out.1.below b5) (And.intro (O4.out.2.1.below b5) (OwnV.below O4.out.2.2 b5)))
      clear d0 d1 d2 d3 d4 d5 d6 d7 d8 d9 d10 d11 d12 d13 d14 d15 zb CB
      by_cases hv : validB M = true
      · obtain ⟨bA, bc, rfl, oE⟩ := h5.ok hv
        have HE0 := Lib.hid (encM_len (HVG.out hv).1 (valid_kind hv))
        have hJP : JP ⟨M, nA2, nc2, rA2, rc2, vA2, vc2⟩ := ⟨hv, (HVG.out hv).1, HBY.out⟩
        obtain ⟨E, hE⟩ : ∃ E, E = encM M := ⟨_, rfl⟩
        rw [← hE] at oE HE0 ⊢
        have hEl : E.length ≤ 14000 := HE0.out.2
        have hPl : P.length ≤ 14000 * W.length := by rw [J5.out.eq]; exact flat_len J5.out.ps
        have hWl := HWL.out
        by_cases h12 : i < 12
        · obtain ⟨y, hy⟩ : ∃ y : RM, y = ⟨M, nA2, nc2, rA2, rc2, vA2, vc2⟩ := ⟨_, rfl⟩
          have HY := Lib.hid (show JP y by rw [hy]; exact hJP)
          have HYV := Lib.hid (show MC = y.val by rw [hy, HMC.out]; rfl)
          have HYC := Lib.hid (show RMC y = MC.toList by rw [HYV.out]; rfl)
          have HMZ := Lib.hid (show MC.size = 16 by rw [HMC.out]; rfl)
          have HRG := Lib.hid (show ∀ w', Blk w' gm 28 y.val → w'.rangeAt gm 0 [.int .u64 M.kind, .int .u64 M.id, .int .u64 M.alias_, .slice nA2 M.name.length nc2, .int .u8 M.prio, .int .u8 M.ord, .int .u64 M.sg, .int .u64 M.so, .int .u64 M.eg, .int .u64 M.eo, .bool M.some_, .int .u64 M.code, .slice rA2 M.reason.length rc2, .int .u64 M.n, .int .u64 M.ver, .slice vA2 M.vers.length vc2] from fun w' hS => by have := range_blk hS; rw [← HYV.out, HMC.out] at this; exact this)
          have Q5 := Lib.hid (show JQ B w5 W y P pA pc wA wc gm from ⟨J5.out.bp, J5.out.bw, fun z hz => by
            rcases List.mem_append.1 hz with hz | hz
            · exact J5.out.ms z hz
            · simp at hz
              subst hz
              have hzb : B ≤ W2.heap.size := J2.out.z
              rw [hy]
              exact ⟨Own.base_leW O5.out.1 hzb, Own.base_leW O5.out.2.1 hzb, OwnV.lower O5.out.2.2 hzb,
                fun kk hk e => by have h1 := HPV.out kk e; have h2 := OwnV.row_ge (show OwnV w5 W2.heap.size 5 1 nA2 nc2 M.name.length (U8 M.name) from O5.out.1) kk hk; omega,
                fun kk hk e => by have h1 := HPV.out kk e; have h2 := OwnV.row_ge (show OwnV w5 W2.heap.size 5 1 rA2 rc2 M.reason.length (U8 M.reason) from O5.out.2.1) kk hk; omega⟩, by rw [← HYV.out]; exact K5.out, HWV.out, J5.out.z⟩)
          obtain ⟨X, hX⟩ : ∃ X, X = P ++ E := ⟨_, rfl⟩
          have HX := Lib.hid hX
          have HXL := Lib.hid (show X.length = P.length + E.length by rw [hX, List.length_append])
          have HXE := Lib.hid (show X = (W.flatMap fun y => encM y.m) ++ encM y.m by rw [hX, J5.out.eq, hE, hy])
          have HPS := Lib.hid J5.out.ps
          obtain ⟨ZV, hZV⟩ := info_rmsgW
          have HZV := Lib.hid hZV
          have OE5 := Lib.hid oE
          have hd1 : decide ((i : Int) < 12) = true := by simp; omega
          have hd2 : decide (i < 12) = true := by simp; omega
          clear hy hX hE hJP oE h5 hv hZV b5 J5 K5 O5 O4 K4 J4 HE0
          go_wp2_with fail
          obtain ⟨w6, hw6⟩ : ∃ w6, w6 = w5.drew := ⟨_, rfl⟩
          have Q6 := Lib.hid (show JQ B w6 W y P pA pc wA wc gm by rw [hw6]; exact Q5.out.below (Below.refl _ _).drew)
          have B6 := Lib.hid (show Below B w1 w6 by rw [hw6]; exact HB5.out.drew)
          have OE6 := Lib.hid (show Own w6 w4.heap.size bA bc E by rw [hw6]; exact OE5.out.below (Below.refl _ _).drew)
          refine wp_region_held_drew (S := fun w' => Blk w' gm 28 y.val) (by kernel_rfl) Q5.out.box.drew (fun s0 => ?_)
          rw [← hw6] at s0 ⊢
          clear hw6 Q5 OE5 HB5
          refine wpAnyH_take (i := 0) (oi := ⟨_, _, _, _, _, _⟩) (v := .slice pA P.length pc) rfl (by kernel_rfl) (by kernel_rfl) (by kernel_rfl) (fun _ _ _ h => h) (Or.inl ⟨by rfl, fun w' hS => by go_simp⟩) s0 ?_
          simp only [Act.put, List.setIfInBounds_toArray, List.set_cons_zero, List.set_cons_succ]
          refine wpAnyH_take (i := 1) (oi := ⟨_, _, _, _, _, _⟩) (v := .slice bA E.length bc) rfl (by kernel_rfl) (by kernel_rfl) (by kernel_rfl) (fun _ _ _ h => h) (Or.inl ⟨by rfl, fun w' hS => by go_simp⟩) s0 ?_
          simp only [Act.put, List.setIfInBounds_toArray, List.set_cons_zero, List.set_cons_succ]
          refine wpAnyH_take (i := 3) (oi := ⟨_, _, _, _, _, _⟩) (v := .slice wA W.length wc) rfl (by kernel_rfl) (by kernel_rfl) (by kernel_rfl) (fun _ _ _ h => h) (Or.inl ⟨by rfl, fun w' hS => by go_simp⟩) s0 ?_
          simp only [Act.put, List.setIfInBounds_toArray, List.set_cons_zero, List.set_cons_succ]
          refine wpAnyH_take (i := 4) (oi := ⟨_, _, _, _, _, _⟩) rfl (by kernel_rfl) (by kernel_rfl) (by kernel_rfl) (fun _ _ _ h => h) (yieldsIf_load_mid (by rfl) 28 (.tmp 6) rfl gm 0 rfl [.int .u64 M.kind, .int .u64 M.id, .int .u64 M.alias_, .slice nA2 M.name.length nc2, .int .u8 M.prio, .int .u8 M.ord, .int .u64 M.sg, .int .u64 M.so, .int .u64 M.eg, .int .u64 M.eo, .bool M.some_, .int .u64 M.code, .slice rA2 M.reason.length rc2, .int .u64 M.n, .int .u64 M.ver, .slice vA2 M.vers.length vc2] _ (fun w' hS => HRG.out w' hS) Tryd.underlying28 rfl info_rmsg) s0 ?_
          simp only [Act.put, List.setIfInBounds_toArray, List.set_cons_zero, List.set_cons_succ]
          refine wpAnyH_ready (rs := [2, 5]) (by kernel_rfl) (by simp) ?_
          refine AllReadyH.cons rfl (fun K hK => ?_) (AllReadyH.cons rfl (fun K hK => ?_) AllReadyH.nil)
          · skip
            refine step_appV rfl (.tmp 36) (.tmp 37) 23 5 1 1 (.int .u8 0) rfl Tryd.underlying23 info_u8 rfl (by omega) B (n := P.length) (m := E.length) (xs := U8 P) (news := U8 E) (d := bc) rfl rfl Q6.out.bp (Rd.of_own OE6.out) (by intro u hu; simp only [U8, List.mem_map] at hu; obtain ⟨z, _, rfl⟩ := hu; rfl) (by unfold maxLen; omega) (by omega) Q6.out.z ?_
            intro pA2 pc2 w7 h1 h2 h3 h4
            have hP2 : Own w7 B pA2 pc2 X := by unfold Own; rw [HX.out, show U8 (P ++ E) = U8 P ++ U8 E by simp [U8], List.length_append]; exact h1
            have hd2 : (Value.slice pA2 X.length pc2).ownBlock = (Value.slice pA P.length pc).ownBlock ∨ (Value.slice pA2 X.length pc2).ownBlock = some w6.heap.size := by rw [HX.out, List.length_append]; exact h4
            have Q7 := Lib.hid (Q6.out.appP hP2 h2 hd2)
            have B7 := Lib.hid (B6.out.trans h3)
            refine hK.out _ _ Q7.out.box (fun s7 => ?_)
            clear hK K h1 h2 h4 hP2 hd2 h3
            simp only [List.getElem_toArray, List.getElem_cons_succ, List.getElem_cons_zero, Act.put, List.setIfInBounds_toArray, List.set_cons_succ, List.set_cons_zero]
            rw [← HXL.out]
            refine wpAnyH_ready (rs := [5]) (by kernel_rfl) (by simp) ?_
            refine AllReadyH.cons rfl (fun K hK => ?_) AllReadyH.nil
            go_simp
            have hb8 : Below w7.heap.size w7 (w7.alloc (.cells #[.int .u64 M.kind, .int .u64 M.id, .int .u64 M.alias_, .slice nA2 M.name.length nc2, .int .u8 M.prio, .int .u8 M.ord, .int .u64 M.sg, .int .u64 M.so, .int .u64 M.eg, .int .u64 M.eo, .bool M.some_, .int .u64 M.code, .slice rA2 M.reason.length rc2, .int .u64 M.n, .int .u64 M.ver, .slice vA2 M.vers.length vc2] 28)) := (Below.refl _ _).alloc (Nat.le_refl _) _
            have hk8 : Blk (w7.alloc (.cells #[.int .u64 M.kind, .int .u64 M.id, .int .u64 M.alias_, .slice nA2 M.name.length nc2, .int .u8 M.prio, .int .u8 M.ord, .int .u64 M.sg, .int .u64 M.so, .int .u64 M.eg, .int .u64 M.eo, .bool M.some_, .int .u64 M.code, .slice rA2 M.reason.length rc2, .int .u64 M.n, .int .u64 M.ver, .slice vA2 M.vers.length vc2] 28)) w7.heap.size 28 #[.int .u64 M.kind, .int .u64 M.id, .int .u64 M.alias_, .slice nA2 M.name.length nc2, .int .u8 M.prio, .int .u8 M.ord, .int .u64 M.sg, .int .u64 M.so, .int .u64 M.eg, .int .u64 M.eo, .bool M.some_, .int .u64 M.code, .slice rA2 M.reason.length rc2, .int .u64 M.n, .int .u64 M.ver, .slice vA2 M.vers.length vc2] := Blk.new _ _ _
            have hq8 := Q7.out.below hb8
            refine hK.out _ _ hq8.box (fun s8 => ?_)
            clear hK K
            obtain ⟨w8, hw8⟩ : ∃ w', w' = w7.alloc (.cells #[.int .u64 M.kind, .int .u64 M.id, .int .u64 M.alias_, .slice nA2 M.name.length nc2, .int .u8 M.prio, .int .u8 M.ord, .int .u64 M.sg, .int .u64 M.so, .int .u64 M.eg, .int .u64 M.eo, .bool M.some_, .int .u64 M.code, .slice rA2 M.reason.length rc2, .int .u64 M.n, .int .u64 M.ver, .slice vA2 M.vers.length vc2] 28) := ⟨_, rfl⟩
            obtain ⟨gq, hgq⟩ : ∃ g, g = w7.heap.size := ⟨_, rfl⟩
            have Q8 := Lib.hid (show JQ B w8 W y X pA2 pc2 wA wc gm by rw [hw8]; exact hq8)
            have B8 := Lib.hid (show Below B w1 w8 by rw [hw8]; exact B7.out.trans (hb8.mono Q7.out.z))
            have KQ8 := Lib.hid (show Blk w8 gq 28 MC by rw [hw8, hgq, HMC.out]; exact hk8)
            rw [← hw8, ← hgq]
            rw [← hw8] at s8
            clear hw8 hgq hb8 hk8 hq8
            refine wpAnyH_ready (rs := [6]) (by kernel_rfl) (by simp) ?_
            refine AllReadyH.cons rfl (fun K hK => ?_) AllReadyH.nil
            refine step_appV rfl (.tmp 39) (.tmp 41) 53 28 16 168 ZV rfl Tryd.underlying53 HZV.out.1 HZV.out.2 (by omega) B (n := W.length) (m := 1) (xs := FlV RMC W) (news := RMC y) (d := 1) rfl rfl Q8.out.bw (by rw [HYC.out]; exact reads_blk16 KQ8.out HMZ.out) (RMC_one y) (by unfold maxLen; omega) (by omega) Q8.out.z ?_
            intro wA2 wc2 w9 k1 k2 k3 k4
            have hW2 : OwnF RMC 16 28 w9 B wA2 wc2 (W ++ [y]) := by unfold OwnF; rw [FlV_append, FlV_one, List.length_append]; exact k1
            have J9 := Lib.hid (Q8.out.appW hW2 k2 HPS.out HY.out HXE.out)
            have B9 := Lib.hid (B8.out.trans k3)
            refine hK.out _ _ (Q8.out.box.grown k2 (fun e => Q8.out.nb _ e.symm rfl)) (fun s9 => ?_)
            clear hK K k1 k2 k3 k4 hW2
            simp only [List.getElem_toArray, List.getElem_cons_succ, List.getElem_cons_zero, Act.put, List.setIfInBounds_toArray, List.set_cons_succ, List.set_cons_zero]
            refine wpAnyH_take (i := 7) (oi := ⟨_, _, _, _, _, _⟩) (v := .slice pA2 X.length pc2) rfl (by kernel_rfl) (by kernel_rfl) (by kernel_rfl) (fun _ _ _ h => h) (Or.inl ⟨by rfl, fun w' hS => by go_simp⟩) s9 ?_
            simp only [Act.put, List.setIfInBounds_toArray, List.set_cons_zero, List.set_cons_succ]
            refine wpAnyH_take (i := 8) (oi := ⟨_, _, _, _, _, _⟩) (v := .slice wA2 (W.length + 1) wc2) rfl (by kernel_rfl) (by kernel_rfl) (by kernel_rfl) (fun _ _ _ h => h) (Or.inl ⟨by rfl, fun w' hS => by go_simp⟩) s9 ?_
            simp only [Act.put, List.setIfInBounds_toArray, List.set_cons_zero, List.set_cons_succ]
            refine wpAnyH_done (by kernel_rfl) ?_ _
            go_wp2_with fail
            go_roundw
            case rel => exact ⟨i + 1, X, W ++ [y], pA2, pc2, wA2, wc2, rfl, by simp, by go_num, by omega, Lib.hid ⟨J9.out, B9.out, by simp; omega, by simp; omega⟩⟩
            case measure => simp [intOf]; omega
          · skip
            go_simp
            have hb7 : Below w6.heap.size w6 (w6.alloc (.cells #[.int .u64 M.kind, .int .u64 M.id, .int .u64 M.alias_, .slice nA2 M.name.length nc2, .int .u8 M.prio, .int .u8 M.ord, .int .u64 M.sg, .int .u64 M.so, .int .u64 M.eg, .int .u64 M.eo, .bool M.some_, .int .u64 M.code, .slice rA2 M.reason.length rc2, .int .u64 M.n, .int .u64 M.ver, .slice vA2 M.vers.length vc2] 28)) := (Below.refl _ _).alloc (Nat.le_refl _) _
            have hk7 : Blk (w6.alloc (.cells #[.int .u64 M.kind, .int .u64 M.id, .int .u64 M.alias_, .slice nA2 M.name.length nc2, .int .u8 M.prio, .int .u8 M.ord, .int .u64 M.sg, .int .u64 M.so, .int .u64 M.eg, .int .u64 M.eo, .bool M.some_, .int .u64 M.code, .slice rA2 M.reason.length rc2, .int .u64 M.n, .int .u64 M.ver, .slice vA2 M.vers.length vc2] 28)) w6.heap.size 28 #[.int .u64 M.kind, .int .u64 M.id, .int .u64 M.alias_, .slice nA2 M.name.length nc2, .int .u8 M.prio, .int .u8 M.ord, .int .u64 M.sg, .int .u64 M.so, .int .u64 M.eg, .int .u64 M.eo, .bool M.some_, .int .u64 M.code, .slice rA2 M.reason.length rc2, .int .u64 M.n, .int .u64 M.ver, .slice vA2 M.vers.length vc2] := Blk.new _ _ _
            have hq7 := Q6.out.below hb7
            refine hK.out _ _ hq7.box (fun s7 => ?_)
            clear hK K
            obtain ⟨w7, hw7⟩ : ∃ w', w' = w6.alloc (.cells #[.int .u64 M.kind, .int .u64 M.id, .int .u64 M.alias_, .slice nA2 M.name.length nc2, .int .u8 M.prio, .int .u8 M.ord, .int .u64 M.sg, .int .u64 M.so, .int .u64 M.eg, .int .u64 M.eo, .bool M.some_, .int .u64 M.code, .slice rA2 M.reason.length rc2, .int .u64 M.n, .int .u64 M.ver, .slice vA2 M.vers.length vc2] 28) := ⟨_, rfl⟩
            obtain ⟨gq, hgq⟩ : ∃ g, g = w6.heap.size := ⟨_, rfl⟩
            have Q7 := Lib.hid (show JQ B w7 W y P pA pc wA wc gm by rw [hw7]; exact hq7)
            have B7 := Lib.hid (show Below B w1 w7 by rw [hw7]; exact B6.out.trans (hb7.mono Q6.out.z))
            have KQ7 := Lib.hid (show Blk w7 gq 28 MC by rw [hw7, hgq, HMC.out]; exact hk7)
            have OE7 := Lib.hid (show Own w7 w4.heap.size bA bc E by rw [hw7]; exact OE6.out.below hb7)
            rw [← hw7, ← hgq]
            rw [← hw7] at s7
            clear hw7 hgq hb7 hk7 hq7
            refine wpAnyH_ready (rs := [2]) (by kernel_rfl) (by simp) ?_
            refine AllReadyH.cons rfl (fun K hK => ?_) AllReadyH.nil
            refine step_appV rfl (.tmp 36) (.tmp 37) 23 5 1 1 (.int .u8 0) rfl Tryd.underlying23 info_u8 rfl (by omega) B (n := P.length) (m := E.length) (xs := U8 P) (news := U8 E) (d := bc) rfl rfl Q7.out.bp (Rd.of_own OE7.out) (by intro u hu; simp only [U8, List.mem_map] at hu; obtain ⟨z, _, rfl⟩ := hu; rfl) (by unfold maxLen; omega) (by omega) Q7.out.z ?_
            intro pA2 pc2 w8 h1 h2 h3 h4
            have hP2 : Own w8 B pA2 pc2 X := by unfold Own; rw [HX.out, show U8 (P ++ E) = U8 P ++ U8 E by simp [U8], List.length_append]; exact h1
            have hd2 : (Value.slice pA2 X.length pc2).ownBlock = (Value.slice pA P.length pc).ownBlock ∨ (Value.slice pA2 X.length pc2).ownBlock = some w7.heap.size := by rw [HX.out, List.length_append]; exact h4
            have Q8 := Lib.hid (Q7.out.appP hP2 h2 hd2)
            have B8 := Lib.hid (B7.out.trans h3)
            have KQ8 := Lib.hid (KQ7.out.grown h2 (fun e => OwnV.other (show OwnV w7 B 5 1 pA pc P.length (U8 P) from Q7.out.bp) (by decide) gq _ KQ7.out e.symm))
            refine hK.out _ _ Q8.out.box (fun s8 => ?_)
            clear hK K h1 h2 h4 hP2 hd2 h3
            simp only [List.getElem_toArray, List.getElem_cons_succ, List.getElem_cons_zero, Act.put, List.setIfInBounds_toArray, List.set_cons_succ, List.set_cons_zero]
            rw [← HXL.out]
            refine wpAnyH_ready (rs := [6]) (by kernel_rfl) (by simp) ?_
            refine AllReadyH.cons rfl (fun K hK => ?_) AllReadyH.nil
            refine step_appV rfl (.tmp 39) (.tmp 41) 53 28 16 168 ZV rfl Tryd.underlying53 HZV.out.1 HZV.out.2 (by omega) B (n := W.length) (m := 1) (xs := FlV RMC W) (news := RMC y) (d := 1) rfl rfl Q8.out.bw (by rw [HYC.out]; exact reads_blk16 KQ8.out HMZ.out) (RMC_one y) (by unfold maxLen; omega) (by omega) Q8.out.z ?_
            intro wA2 wc2 w9 k1 k2 k3 k4
            have hW2 : OwnF RMC 16 28 w9 B wA2 wc2 (W ++ [y]) := by unfold OwnF; rw [FlV_append, FlV_one, List.length_append]; exact k1
            have J9 := Lib.hid (Q8.out.appW hW2 k2 HPS.out HY.out HXE.out)
            have B9 := Lib.hid (B8.out.trans k3)
            refine hK.out _ _ (Q8.out.box.grown k2 (fun e => Q8.out.nb _ e.symm rfl)) (fun s9 => ?_)
            clear hK K k1 k2 k3 k4 hW2
            simp only [List.getElem_toArray, List.getElem_cons_succ, List.getElem_cons_zero, Act.put, List.setIfInBounds_toArray, List.set_cons_succ, List.set_cons_zero]
            refine wpAnyH_take (i := 7) (oi := ⟨_, _, _, _, _, _⟩) (v := .slice pA2 X.length pc2) rfl (by kernel_rfl) (by kernel_rfl) (by kernel_rfl) (fun _ _ _ h => h) (Or.inl ⟨by rfl, fun w' hS => by go_simp⟩) s9 ?_
            simp only [Act.put, List.setIfInBounds_toArray, List.set_cons_zero, List.set_cons_succ]
            refine wpAnyH_take (i := 8) (oi := ⟨_, _, _, _, _, _⟩) (v := .slice wA2 (W.length + 1) wc2) rfl (by kernel_rfl) (by kernel_rfl) (by kernel_rfl) (fun _ _ _ h => h) (Or.inl ⟨by rfl, fun w' hS => by go_simp⟩) s9 ?_
            simp only [Act.put, List.setIfInBounds_toArray, List.set_cons_zero, List.set_cons_succ]
            refine wpAnyH_done (by kernel_rfl) ?_ _
            go_wp2_with fail
            go_roundw
            case rel => exact ⟨i + 1, X, W ++ [y], pA2, pc2, wA2, wc2, rfl, by simp, by go_num, by omega, Lib.hid ⟨J9.out, B9.out, by simp; omega, by simp; omega⟩⟩
            case measure => simp [intOf]; omega
        · have hd1 : decide ((i : Int) < 12) = false := by simp; omega
          have hd2 : decide (i < 12) = false := by simp; omega
          clear hE oE h5 hv hJP
          go_wp2_with fail
          go_roundw
          case rel => exact ⟨i + 1, P, W, pA, pc, wA, wc, rfl, rfl, by go_num, by omega, Lib.hid ⟨J5.out, HB5.out, HWL.out.1, by have := HWL.out.2; omega⟩⟩
          case measure => simp [intOf]; omega
      · obtain rfl := h5.no (by simpa using hv)
        clear h5 hv
        by_cases h12 : i < 12
        · have hd1 : decide ((i : Int) < 12) = true := by simp; omega
          have hd2 : decide (i < 12) = true := by simp; omega
          go_wp2_with fail
          go_roundw
          case rel => exact ⟨i + 1, P, W, pA, pc, wA, wc, rfl, rfl, by go_num, by omega, Lib.hid ⟨J5.out, HB5.out, HWL.out.1, by have := HWL.out.2; omega⟩⟩
          case measure => simp [intOf]; omega
        · have hd1 : decide ((i : Int) < 12) = false := by simp; omega
          have hd2 : decide (i < 12) = false := by simp; omega
          go_wp2_with fail
          go_roundw
          case rel => exact ⟨i + 1, P, W, pA, pc, wA, wc, rfl, rfl, by go_num, by omega, Lib.hid ⟨J5.out, HB5.out, HWL.out.1, by have := HWL.out.2; omega⟩⟩
          case measure => simp [intOf]; omega
      -- END REST
    · as_aux_lemma =>
        have hd1 : decide (i < l.length) = false := by simpa using hlt
        have hd2 : decide ((i : Int) < (l.length : Int)) = false := by simp; omega
        have JJ := Lib.hid HJ.out.ji
        have HBW := Lib.hid (show Below w.heap.size w wr from B1.out.trans ((show Below w1.heap.size w1 wr by rw [← HB.out]; exact HJ.out.bel).mono B1.out.size))
        have HWL := Lib.hid HJ.out.wl
        have HPL := Lib.hid (show ∀ j, ((W.drop j).flatMap fun x => encM x.m).length ≤ 14000 * W.length from fun j => by
          have := flat_len (W := W.drop j) (fun x hx => HJ.out.ji.ps x (List.mem_of_mem_drop hx))
          rw [List.length_drop] at this
          have : 14000 * (W.length - j) ≤ 14000 * W.length := Nat.mul_le_mul_left _ (Nat.sub_le _ _)
          omega)
        have HFB := Lib.hid (show ∀ j, Bytes ((W.drop j).flatMap fun x => encM x.m) from fun j => flat_by (W := W.drop j) (fun x hx => HJ.out.ji.ps x (List.mem_of_mem_drop hx)))
        have R0 := Lib.hid (show JR wr wr W 0 pA pc from ⟨by rw [List.drop_zero, ← HJ.out.ji.eq]; exact Sl.of_own HJ.out.ji.bp, Below.refl _ _⟩)
        obtain ⟨F, hF⟩ : ∃ F : Nat → List Int, F = fun j => (W.drop j).flatMap fun x => encM x.m := ⟨_, rfl⟩
        have HF0 := Lib.hid (show F 0 = P by rw [hF]; simp only; rw [List.drop_zero, HJ.out.ji.eq])
        have HFE := Lib.hid (show F W.length = [] by rw [hF]; simp)
        have HFS := Lib.hid (show ∀ (j : Nat) (x : RM), W[j]? = some x → F j = encM x.m ++ F (j + 1) from fun j x hx => by rw [hF]; exact flat_step hx)
        have HF := Lib.hid hF
        have HRW := Lib.hid (show ∀ W', Below wr.heap.size wr W' → RdF RMC 16 W' wA W from fun W' hb => RdF.below (OwnF.reads HJ.out.ji.bw) hb)
        clear J0 HJ hlt hF
        go_wp2_with fail
        have hP0 : P.length = (F 0).length := by rw [HF0.out]
        rw [hP0]
        clear hP0
        rename World => w2
        go_loopw [3, 46] (fun pv iv wr => ∃ (j : Nat) (A2 : Option Addr) (c2 : Nat), pv = .slice A2 (F j).length c2 ∧ iv = .int .i64 j ∧ j ≤ W.length ∧ Hid (JR w2 wr W j A2 c2)) (fun _ iv _ => W.length - (intOf iv).toNat)
        case atStart => exact ⟨0, pA, pc, rfl, rfl, Nat.zero_le _, R0⟩
        case round =>
          obtain ⟨j, A2, c2, rfl, rfl, hj, HI⟩ := hrel
          rename World => wr
          by_cases hlt2 : j < W.length
          · as_aux_lemma =>
            have HLT2 := Lib.hid hlt2
            obtain ⟨bW, oW, x, hA, hlb, hx, hcell⟩ := RdF.at_ (C := RMC) (k := 16) RMC_len (by omega) (HRW.out wr HI.out.bel) hlt2
            subst hA
            have hxm : x ∈ W := List.mem_of_getElem? hx
            have HX := Lib.hid (HFS.out j x hx)
            have hjm := JJ.out.ms x hxm
            have hjp := JJ.out.ps x hxm
            have b3 : Below wr.heap.size wr (wr.alloc (.cells x.val 28)) := (Below.refl _ _).alloc (Nat.le_refl _) _
            obtain ⟨W3, hW3⟩ : ∃ W3, W3 = wr.alloc (.cells x.val 28) := ⟨_, rfl⟩
            rw [← hW3] at b3
            have HB3 := Lib.hid (HI.out.bel.trans (b3.mono HI.out.bel.size))
            have hsl : Sl W3 A2 c2 (F j) := by have := HI.out.sl.below b3; rw [HF.out]; exact this
            have RD := Lib.hid (Read_any A2 c2 (F j) W3 hsl (by rw [HF.out]; exact HFB.out j) (by have h1 := HPL.out j; have h2 := HWL.out; rw [HF.out]; simp only; omega))
            have HRD := Lib.hid (show readW (F j) = .ok (x.m, F (j + 1)) by rw [HX.out]; exact read_enc hjp.valid hjp.good _)
            have KB := Lib.hid (show Blk W3 wr.heap.size 28 x.val by rw [hW3]; exact Blk.new _ _ _)
            have JX := Lib.hid (And.intro (hjm.below HB3.out) hjp)
            clear hx hxm hjm hjp b3 hsl
            obtain ⟨M, nA, nc, rA, rc, vA, vc⟩ := x
            have q0 := hcell 0 (by omega)
            have q1 := hcell 1 (by omega)
            have q2 := hcell 2 (by omega)
            have q3 := hcell 3 (by omega)
            have q4 := hcell 4 (by omega)
            have q5 := hcell 5 (by omega)
            have q6 := hcell 6 (by omega)
            have q7 := hcell 7 (by omega)
            have q8 := hcell 8 (by omega)
            have q9 := hcell 9 (by omega)
            have q10 := hcell 10 (by omega)
            have q11 := hcell 11 (by omega)
            have q12 := hcell 12 (by omega)
            have q13 := hcell 13 (by omega)
            have q14 := hcell 14 (by omega)
            have q15 := hcell 15 (by omega)
            simp [RMC, RM.val, mvC, ← Nat.add_assoc] at q0 q1 q2 q3 q4 q5 q6 q7 q8 q9 q10 q11 q12 q13 q14 q15
            unfold RM.val mvC at hW3 KB
            simp only at hW3 KB JX HRD
            have HW3 := Lib.hid hW3
            obtain ⟨gm, hgm⟩ : ∃ g, g = wr.heap.size := ⟨_, rfl⟩
            clear hcell hW3
            go_upto_region 16 with (fail)
            rw [← HW3.out]
            rw [← hgm] at KB ⊢
            clear q0 q1 q2 q3 q4 q5 q6 q7 q8 q9 q10 q11 q12 q13 q14 q15 HW3 hgm
            go_wp2_with fail
            refine RD.out.mono ?_
            rintro e w4 h4
            obtain ⟨nB, nd, rB, rd, vB, vd, qA, qc, rfl, u1, u2, u3, u4⟩ := h4.ok M (F (j + 1)) HRD.out
            have b4 := h4.bel
            obtain ⟨w5, hw5⟩ : ∃ w5, w5 = w4.alloc (.cells #[.int .u64 M.kind, .int .u64 M.id, .int .u64 M.alias_, .slice nB M.name.length nd, .int .u8 M.prio, .int .u8 M.ord, .int .u64 M.sg, .int .u64 M.so, .int .u64 M.eg, .int .u64 M.eo, .bool M.some_, .int .u64 M.code, .slice rB M.reason.length rd, .int .u64 M.n, .int .u64 M.ver, .slice vB M.vers.length vd] 31) := ⟨_, rfl⟩
            have b5 : Below w4.heap.size w4 w5 := by rw [hw5]; exact (Below.refl _ _).alloc (Nat.le_refl _) _
            have b35 := b4.trans (b5.mono b4.size)
            have kx : Blk w5 w4.heap.size 31 #[.int .u64 M.kind, .int .u64 M.id, .int .u64 M.alias_, .slice nB M.name.length nd, .int .u8 M.prio, .int .u8 M.ord, .int .u64 M.sg, .int .u64 M.so, .int .u64 M.eg, .int .u64 M.eo, .bool M.some_, .int .u64 M.code, .slice rB M.reason.length rd, .int .u64 M.n, .int .u64 M.ver, .slice vB M.vers.length vd] := by rw [hw5]; exact Blk.new _ _ _
            have kg := KB.out.below b35 KB.out.lt
            have zx := kx.lt
            have zg := kg.lt
            have HB5 := Lib.hid (HB3.out.trans (b35.mono HB3.out.size))
            have hlens := valid_lens JX.out.2.valid
            have CS := Lib.hid (show Calls Tryd.prog 14 #[.agg (mvC M nB nd rB rd vB vd), .agg (mvC M nA nc rA rc vA vc)] w5 fun r w' => r = .returned (.bool true) ∧ Below w5.heap.size w5 w' by
              have hj5 := JX.out.1.below b35
              have := sameW_any M M nB nd rB rd vB vd nA nc rA rc vA vc w5 (Rd.of_own (Own.below u1 b5)) (Rd.of_own (Own.below u2 b5)) (OwnV.reads (OwnV.below u3 b5)) (Rd.of_own hj5.nm) (Rd.of_own hj5.rs) (OwnV.reads hj5.vs) JX.out.2.by_.name JX.out.2.by_.reason JX.out.2.by_.name JX.out.2.by_.reason (by have := hlens.2.2.1; simp only at this; omega) (by have := hlens.2.2.1; simp only at this; omega)
              rwa [(sameMB_iff M M).2 rfl] at this)
            have HQ := Lib.hid (Own.below u4 b5)
            have d0 := kg.cell 0
            have d1 := kg.cell 1
            have d2 := kg.cell 2
            have d3 := kg.cell 3
            have d4 := kg.cell 4
            have d5 := kg.cell 5
            have d6 := kg.cell 6
            have d7 := kg.cell 7
            have d8 := kg.cell 8
            have d9 := kg.cell 9
            have d10 := kg.cell 10
            have d11 := kg.cell 11
            have d12 := kg.cell 12
            have d13 := kg.cell 13
            have d14 := kg.cell 14
            have d15 := kg.cell 15
            simp only [List.getElem?_toArray, List.getElem?_cons_zero, List.getElem?_cons_succ] at d0 d1 d2 d3 d4 d5 d6 d7 d8 d9 d10 d11 d12 d13 d14 d15
            have f0 := kx.cell 0
            have f1 := kx.cell 1
            have f2 := kx.cell 2
            have f3 := kx.cell 3
            have f4 := kx.cell 4
            have f5 := kx.cell 5
            have f6 := kx.cell 6
            have f7 := kx.cell 7
            have f8 := kx.cell 8
            have f9 := kx.cell 9
            have f10 := kx.cell 10
            have f11 := kx.cell 11
            have f12 := kx.cell 12
            have f13 := kx.cell 13
            have f14 := kx.cell 14
            have f15 := kx.cell 15
            simp only [List.getElem?_toArray, List.getElem?_cons_zero, List.getElem?_cons_succ] at f0 f1 f2 f3 f4 f5 f6 f7 f8 f9 f10 f11 f12 f13 f14 f15
            have HW5 := Lib.hid hw5
            clear hw5 b4 b5 b35 kx kg u1 u2 u3 u4 h4 RD KB hlens
            unfold mvC at CS ⊢
            as_aux_lemma =>
            go_upto_region 17 with (fail)
            rw [← HW5.out]
            go_wp2_with fail
            refine CS.out.mono ?_
            rintro e w6 ⟨rfl, b6⟩
            have HB6 := Lib.hid (HB5.out.trans (b6.mono HB5.out.size))
            have HQ6 := Lib.hid (Sl.of_own (Own.below HQ.out b6))
            clear b6 CS d0 d1 d2 d3 d4 d5 d6 d7 d8 d9 d10 d11 d12 d13 d14 d15 f0 f1 f2 f3 f4 f5 f6 f7 f8 f9 f10 f11 f12 f13 f14 f15 zx zg
            have hwl12 := HWL.out
            go_wp2_with fail
            go_roundw
            case rel => exact ⟨j + 1, qA, qc, rfl, by go_num, HLT2.out, Lib.hid ⟨by have := HQ6.out; rw [HF.out] at this; exact this, HB6.out⟩⟩
            case measure => simp [intOf]; have := HLT2.out; omega
          · have hjW : j = W.length := by omega
            subst hjW
            have hB := HI.out.bel
            have BB := Lib.hid (HBW.out.trans (hB.mono HBW.out.size))
            have hd3 : decide (W.length < W.length) = false := by simp
            rw [HFE.out]
            clear HI hB
            simp only [List.length_nil]
            go_wp2_with fail
            go_ret
            exact ⟨rfl, BB.out⟩
end Go.Proofs.YtfedofoadfipcaaDoor
