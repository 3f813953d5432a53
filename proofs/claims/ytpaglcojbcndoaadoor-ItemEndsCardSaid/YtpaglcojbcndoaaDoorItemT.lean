/-
  item: pure: what was written is read again; NewReader; two objects in a row.
-/
import Derived.Test.YtpaglcojbcndoaaDoorItemR2
import Derived.Test.YtpaglcojbcndoaaDoorItemS
import Derived.Test.YtpaglcojbcndoaaDoorItemI
namespace Go.Proofs.YtpaglcojbcndoaaDoor
open Go.RowKit
set_option linter.unusedVariables false
set_option linter.unusedSimpArgs false
theorem NewR_any (w : World) : Calls Tryd.prog 17 #[] w fun r w' => ∃ g, r = .returned (.pointer (some ⟨g, 0, none⟩)) ∧ RB w' g ird0 none 0 ∧ w.heap.size ≤ g ∧ Below w.heap.size w w' := by
  go_enter Tryd.func17, Tryd.ntmps17
  go_wp2
  go_ret
  exact ⟨_, rfl, Blk.new w _ _, Nat.le_refl _, (Below.refl _ _).alloc (Nat.le_refl _) _⟩
theorem iencs_cons (a : Int) (l : List Int) : iencs (a :: l) = venc a ++ iencs l := rfl
theorem iencs_nil : iencs [] = [] := rfl
structure IHOk (h : IH) : Prop where
  id : 0 ≤ h.id
  gr : 0 ≤ h.gr
  pr : 0 ≤ h.pr ∧ h.pr < 256
theorem beginB_by {h : IH} (hk : IHOk h) (hb : beginOk h = true) : Bytes (beginB h) ∧ (beginB h).length ≤ 30 := by
  have h1 := hk.id
  have h2 := hk.gr
  have h3 := hk.pr
  obtain ⟨fe, id, gr, pr⟩ := h
  simp only at h1 h2 h3
  unfold beginOk at hb
  unfold beginB
  cases fe with
  | true =>
    simp only [if_true, Bool.and_eq_true] at hb ⊢
    have hi := encI_all hb.1 (by intro x hx; simp at hx; omega)
    refine ⟨iencs_by hi, ?_⟩
    have := iencs_len hi
    simp only [List.length_cons, List.length_nil] at this
    omega
  | false =>
    simp only [Bool.false_eq_true, if_false] at hb ⊢
    have hi := encI_all hb (by intro x hx; simp at hx; omega)
    refine ⟨Bytes.append (iencs_by hi) (fun x hx => by simp at hx; omega), ?_⟩
    have := iencs_len hi
    simp only [List.length_append, List.length_cons, List.length_nil] at this ⊢
    omega
theorem pBegin_enc {h : IH} (hk : IHOk h) (hb : beginOk h = true) (X : List Int) : pBegin (beginB h ++ X) = .ok (h, X) := by
  have h1 := hk.id
  have h2 := hk.gr
  obtain ⟨fe, id, gr, pr⟩ := h
  simp only at h1 h2
  unfold beginOk at hb
  unfold beginB
  cases fe with
  | true =>
    simp only [if_true, Bool.and_eq_true, decide_eq_true_eq] at hb ⊢
    obtain ⟨he, rfl, rfl⟩ := hb
    have hi := encI_all he (by intro x hx; simp at hx; omega)
    rw [iencs_cons, iencs_cons, iencs_nil, List.append_nil, List.append_assoc]
    unfold pBegin
    rw [pnum_venc (hi 5 (by simp))]
    simp only [if_true]
    rw [pnum_venc (hi id (by simp))]
  | false =>
    simp only [Bool.false_eq_true, if_false] at hb ⊢
    have hi := encI_all hb (by intro x hx; simp at hx; omega)
    rw [iencs_cons, iencs_cons, iencs_cons, iencs_nil, List.append_nil, List.append_assoc, List.append_assoc, List.append_assoc]
    unfold pBegin
    rw [pnum_venc (hi 16 (by simp))]
    simp only [show ¬ (16 : Int) = 5 by decide, if_true, if_false]
    rw [pnum_venc (hi id (by simp))]
    simp only
    rw [pnum_venc (hi gr (by simp))]
    rfl
/-- What makes an object fit its stream. -/
theorem nextOk_iff {h : IH} {o : OV} (hn : nextOk h o = true) : o.data.length ≤ 2048 ∧ encI [o.grp, o.obj] = true ∧ o.gram = false ∧ (h.fe = true ∨ (o.grp = h.gr ∧ o.prio = h.pr)) := by
  unfold nextOk at hn
  simp only [Bool.and_eq_true, decide_eq_true_eq, Bool.not_eq_true', Bool.or_eq_true] at hn
  exact ⟨hn.1, hn.2.1, hn.2.2.1, hn.2.2.2⟩
theorem vtext_by {d : List Int} (hd : Bytes d) (hl : d.length ≤ 1000000) : Bytes (vtext d) := by
  unfold vtext
  exact Bytes.append (venc_le (d.length : Int) (by omega) (by omega)).2.2 hd
theorem nextB_by {h : IH} {o : OV} (hn : nextOk h o = true) (h0 : 0 ≤ o.grp ∧ 0 ≤ o.obj) (hp : 0 ≤ o.prio ∧ o.prio < 256) (hd : Bytes o.data) : Bytes (nextB h o) ∧ (nextB h o).length ≤ 2100 := by
  obtain ⟨h1, h2, _, _⟩ := nextOk_iff hn
  have hi := encI_all h2 (by intro x hx; simp at hx; omega)
  have hv := vtext_len o.data (by omega)
  have hvb := vtext_by hd (by omega)
  unfold nextB
  split
  · refine ⟨Bytes.append (Bytes.append (iencs_by hi) (fun x hx => by simp at hx; omega)) hvb, ?_⟩
    have := iencs_len hi
    simp only [List.length_append, List.length_cons, List.length_nil] at this ⊢
    omega
  · have hi2 : ∀ x ∈ [o.obj], InI x := fun x hx => hi x (by simp at hx ⊢; exact .inr hx)
    refine ⟨Bytes.append (iencs_by hi2) hvb, ?_⟩
    have := iencs_len hi2
    simp only [List.length_append, List.length_cons, List.length_nil] at this ⊢
    omega
theorem pObj_enc {s : IRd} {h : IH} {o : OV} (hs : s.h = h) (hn : nextOk h o = true) (h0 : 0 ≤ o.grp ∧ 0 ≤ o.obj) (X : List Int) :
    pObj s (nextB h o ++ X) = if (!s.some_ || lessI s.lg s.lo o.grp o.obj) = true then .ok (o, X) else .error 4 := by
  obtain ⟨h1, h2, h3, h4⟩ := nextOk_iff hn
  have hi := encI_all h2 (by intro x hx; simp at hx; omega)
  obtain ⟨grp, obj, prio, gram, data⟩ := o
  simp only at h0 h1 h2 h3 h4 hi ⊢
  subst h3
  have tail : ∀ (g p : Int), g = grp → p = prio → pTail s g obj p (vtext data ++ X) = if (!s.some_ || lessI s.lg s.lo grp obj) = true then .ok (⟨grp, obj, prio, false, data⟩, X) else .error 4 := fun g p e1 e2 => by
    subst e1 e2
    unfold pTail
    rw [pText_enc h1]
  unfold pObj nextB
  rw [hs]
  by_cases hf : h.fe = true
  · simp only [hf, if_true]
    rw [iencs_cons, iencs_cons, iencs_nil, List.append_nil, List.append_assoc, List.append_assoc, List.append_assoc, pnum_venc (hi grp (by simp))]
    simp only
    rw [pnum_venc (hi obj (by simp))]
    simp only [List.cons_append, List.nil_append]
    exact tail grp prio rfl rfl
  · obtain ⟨e1, e2⟩ := h4.resolve_left hf
    have hf2 : h.fe = false := by simpa using hf
    simp only [hf2, Bool.false_eq_true, if_false]
    rw [iencs_cons, iencs_nil, List.append_nil, List.append_assoc, pnum_venc (hi obj (by simp))]
    exact tail h.gr h.pr e1.symm e2.symm
theorem venc_pos {n : Int} (h : InI n) : venc n ≠ [] := by
  obtain ⟨k, b, t, hs, hb, hk, hk1, hk8⟩ := vsize_is n h.1 h.2
  intro e
  have hp := pnum_venc h []
  rw [e] at hp
  have := pnum_lt hp
  simp at this
theorem nextB_ne {h : IH} {o : OV} (hn : nextOk h o = true) (h0 : 0 ≤ o.grp ∧ 0 ≤ o.obj) (X : List Int) : nextB h o ++ X ≠ [] := by
  obtain ⟨h1, h2, h3, h4⟩ := nextOk_iff hn
  have hi := encI_all h2 (by intro x hx; simp at hx; omega)
  unfold nextB
  split
  · rw [iencs_cons]
    intro e
    simp only [List.append_eq_nil_iff] at e
    exact venc_pos (hi o.grp (by simp)) e.1.1.1.1
  · rw [iencs_cons]
    intro e
    simp only [List.append_eq_nil_iff] at e
    exact venc_pos (hi o.obj (by simp)) e.1.1.1
theorem pRun_objN {n : Nat} {s : IRd} {p q : List Int} {o : OV} (hb : s.begun = true) (hp : p ≠ []) (h : pObj s p = .ok (o, q)) : pRun (n + 1) s p = glue [o] (pRun n (s.aft o) q) := by
  cases p with
  | nil => exact absurd rfl hp
  | cons x t => exact pRun_obj (l := []) hb h
theorem pRun_objNE {n : Nat} {s : IRd} {p : List Int} {e : Int} (hb : s.begun = true) (hp : p ≠ []) (h : pObj s p = .error e) : pRun (n + 1) s p = (s, [], p, e) := by
  cases p with
  | nil => exact absurd rfl hp
  | cons x t => exact pRun_objE (l := []) hb h
theorem falls_run {h : IH} {a b : OV} {s : IRd} {n : Nat} (hk : IHOk h) (hb : beginOk h = true) (ha : nextOk h a = true) (hc : nextOk h b = true) (a0 : 0 ≤ a.grp ∧ 0 ≤ a.obj) (b0 : 0 ≤ b.grp ∧ 0 ≤ b.obj) (s1 : s.begun = false) (s2 : s.some_ = false) :
    (lessI a.grp a.obj b.grp b.obj = true → (pRun (n + 5) s ((beginB h ++ nextB h a) ++ nextB h b)).2.1 = [a, b] ∧ (pRun (n + 5) s ((beginB h ++ nextB h a) ++ nextB h b)).2.2.2 = 0) ∧
    (lessI a.grp a.obj b.grp b.obj = false → (pRun (n + 5) s ((beginB h ++ nextB h a) ++ nextB h b)).2.1 = [a] ∧ (pRun (n + 5) s ((beginB h ++ nextB h a) ++ nextB h b)).2.2.2 = 4) := by
  have e1 : pRun (n + 5) s ((beginB h ++ nextB h a) ++ nextB h b) = pRun (n + 4) (s.hd h) (nextB h a ++ nextB h b) := by
    rw [List.append_assoc]
    exact pRun_hd (l := []) s1 (pBegin_enc hk hb _)
  have e2 : pRun (n + 4) (s.hd h) (nextB h a ++ nextB h b) = glue [a] (pRun (n + 3) ((s.hd h).aft a) (nextB h b)) :=
    pRun_objN rfl (nextB_ne ha a0 _) (by rw [pObj_enc (s := s.hd h) (h := h) rfl ha a0, if_pos (by show (!s.some_ || _) = true; rw [s2]; rfl)])
  rw [e1, e2]
  have ob := pObj_enc (s := (s.hd h).aft a) (h := h) rfl hc b0 []
  rw [List.append_nil] at ob
  have hne := nextB_ne hc b0 []
  rw [List.append_nil] at hne
  have hl : (!((s.hd h).aft a).some_ || lessI ((s.hd h).aft a).lg ((s.hd h).aft a).lo b.grp b.obj) = lessI a.grp a.obj b.grp b.obj := rfl
  rw [hl] at ob
  constructor
  · intro hlt
    rw [hlt, if_pos rfl] at ob
    have e3 : pRun (n + 3) ((s.hd h).aft a) (nextB h b) = glue [b] (pRun (n + 2) (((s.hd h).aft a).aft b) []) := pRun_objN rfl hne ob
    have e4 : pRun (n + 2) (((s.hd h).aft a).aft b) [] = (((s.hd h).aft a).aft b, [], [], 0) := pRun_end (n := n + 1) (s := ((s.hd h).aft a).aft b) (l := []) rfl
    rw [e3, e4]
    exact ⟨rfl, rfl⟩
  · intro hlt
    rw [hlt, if_neg Bool.false_ne_true] at ob
    have e3 : pRun (n + 3) ((s.hd h).aft a) (nextB h b) = ((s.hd h).aft a, [], nextB h b, 4) := pRun_objNE rfl hne ob
    rw [e3]
    exact ⟨rfl, rfl⟩
theorem rdf_two {w : World} {g : Nat} {x y : RO} (k : Blk w g 27 (ovC x.o x.A x.c ++ ovC y.o y.A y.c)) : RdF ROC 5 w (some ⟨g, 0, none⟩) [x, y] := by
  unfold RdF
  refine ⟨by simp [FlV, ROC, ovC], fun _ => ⟨_, rfl, k.lt, fun j u hu => ?_⟩⟩
  have := k.cell j
  have e : FlV ROC [x, y] = (ovC x.o x.A x.c ++ ovC y.o y.A y.c).toList := by simp [FlV, ROC]
  rw [e] at hu
  have hu' : (ovC x.o x.A x.c ++ ovC y.o y.A y.c)[j]? = some u := by rw [← Array.getElem?_toList]; exact hu
  simp only [Addr.add]
  split
  · rename_i hj; subst hj; rw [this]; exact hu'
  · rw [Nat.zero_add, this]; exact hu'
end Go.Proofs.YtpaglcojbcndoaaDoor
