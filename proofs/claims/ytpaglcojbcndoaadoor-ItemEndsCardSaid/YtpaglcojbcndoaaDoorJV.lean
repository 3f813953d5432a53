/-
  A set of ints: map[int]bool, where all that is stored is true.
-/
import Derived.Test.YtpaglcojbcndoaaDoorInts
import Derived.Test.YtpaglcojbcndoaaDoorOpenT
import Derived.Maps.OwnSet
import Derived.Maps.OwnOps
import Derived.Test.YtpaglcojbcndoaaDoorItemT
namespace Go.Proofs.YtpaglcojbcndoaaDoor
open Go.RowKit Go.Maps
set_option linter.unusedVariables false
set_option linter.unusedSimpArgs false
theorem keyedJ : Keyed Tryd.prog 3 := int_keyed Tryd.underlying3
theorem keyJ {x : Int} (hx : (Lit.int .i64 x).wf = true) : keyOf Tryd.prog 3 (.int .i64 x) = some (.int .i64 x) := keyOf_int_mk Tryd.underlying3 hx
theorem wfJ {x : Int} (h0 : 0 ≤ x) (h1 : x < 9223372036854775808) : (Lit.int .i64 x).wf = true := WalkArith.wf_i64 (by omega)
def RBool : Value → Option (DataW Unit × List MemPlace)
  | .bool b => some (.lit (.bool b), [])
  | _ => none
theorem RBool_inv {v : Value} {b : Bool} {ps : List MemPlace} (h : RBool v = some (.lit (.bool b), ps)) : v = .bool b := by
  unfold RBool at h
  split at h
  · injection h with h
    injection h with h
    injection h with h
    injection h with h
    rw [h]
  · cases h
theorem zeroB (w : World) : (zeroValue 4).run Tryd.prog w = .ok (.bool false) w := by kernel_rfl
/-- Block B is a set of at most n entries: the numbers of T. -/
def MapJ (w : World) (B n : Nat) (T : List Int) : Prop :=
  ∃ D : DataW Unit, w.ownsMap Tryd.prog 3 RBool B n D ∧ (∀ x : Int, (Lit.int .i64 x).wf = true → Maps.has D (.int .i64 x) = decide (x ∈ T) ∧ D.atKey (.int .i64 x) (.lit (.bool false)) = .lit (.bool (decide (x ∈ T)))) ∧ Maps.size D = T.length
theorem MapJ.made (w : World) : MapJ (w.alloc (.map #[] 0)) w.heap.size 0 [] :=
  ⟨.map [], World.ownsMap_made _ _ _ _, fun x hx => ⟨rfl, rfl⟩, rfl⟩
section
variable {w w' : World} {B n : Nat} {T : List Int}
theorem MapJ.kept {row : Option Nat} (h : MapJ w B n T) (hg : w.grownBy w' row) (hne : some B ≠ row) : MapJ w' B n T := by
  obtain ⟨D, h1, h2⟩ := h
  exact ⟨D, h1.kept hg hne, h2⟩
theorem MapJ.alloc (h : MapJ w B n T) (o : Obj) : MapJ (w.alloc o) B n T := h.kept (World.grownBy_alloc w o none) (by simp)
theorem MapJ.drewN (h : MapJ w B n T) (k : Nat) : MapJ (w.drewN k) B n T := by
  obtain ⟨D, h1, h2⟩ := h
  exact ⟨D, h1, h2⟩
theorem MapJ.mono (h : MapJ w B n T) {m : Nat} (hm : n ≤ m) : MapJ w B m T := by
  obtain ⟨D, h1, h2⟩ := h
  exact ⟨D, h1.mono hm, h2⟩
theorem MapJ.lt (h : MapJ w B n T) : B < w.heap.size := by
  obtain ⟨D, h1, h2⟩ := h
  exact h1.lt
theorem MapJ.obj (h : MapJ w B n T) : ∃ es ck, w.heap[B]? = some (.map es ck) := by
  obtain ⟨D, ⟨es, ck, hb, _⟩, _⟩ := h
  exact ⟨es, ck, hb⟩
theorem MapJ.ne_blk {g : Nat} {t : TypeId} {cs : Array Value} (h : MapJ w B n T) (k : Blk w g t cs) : g ≠ B := by
  obtain ⟨es, ck, hb⟩ := h.obj
  intro e
  subst e
  rw [show w.heap[g]? = _ from k] at hb
  cases hb
theorem MapJ.below (h : MapJ w B n T) (hb : Below w.heap.size w w') : MapJ w' B n T := h.kept (row := none) ⟨hb.os, hb.tape, hb.output, hb.size, fun i hi _ => hb.block i hi⟩ (by simp)
theorem MapJ.len (h : MapJ w B n T) (ty : TypeId) : (Builtin.len_ #[66] ty #[.map (some B)]).run Tryd.prog w = .ok (.int .i64 (T.length : Int)) w := by
  obtain ⟨D, h1, _, h3⟩ := h
  rw [← h3]
  exact h1.len Tryd.underlying66 ty
theorem MapJ.look (h : MapJ w B n T) {x : Int} (hx : (Lit.int .i64 x).wf = true) : (Instr.lookup 66 (.map (some B)) (.int .i64 x) false).run Tryd.prog w = .ok (.bool (decide (x ∈ T))) w := by
  obtain ⟨D, h1, h2, _⟩ := h
  obtain ⟨v, ps, hrun, hv⟩ := h1.lookup keyedJ Tryd.underlying66 (zeroB w) (show RBool (.bool false) = some (.lit (.bool false), []) from rfl) (keyJ hx)
  rw [(h2 x hx).2] at hv
  rw [hrun, RBool_inv hv]
theorem MapJ.store (h : MapJ w B n T) (hn : n < maxLen) {x : Int} (hx : (Lit.int .i64 x).wf = true) :
    ∃ w', (Instr.mapUpdate 66 (.map (some B)) (.int .i64 x) (.bool true)).run Tryd.prog w = .ok () w' ∧ MapJ w' B (n + 1) (T ++ if x ∈ T then [] else [x]) ∧ w.grownBy w' (some B) := by
  obtain ⟨D, h1, h2, h3⟩ := h
  obtain ⟨w', hrun, r1, r2⟩ := h1.update keyedJ Tryd.underlying66 hn (keyJ hx) (show RBool (.bool true) = some (.lit (.bool true), []) from rfl)
  refine ⟨w', hrun, ⟨_, r1, fun y hy => ?_, ?_⟩, r2⟩
  · by_cases hxy : y = x
    · subst hxy
      have hm : y ∈ T ++ (if y ∈ T then [] else [y]) := by
        by_cases hm : y ∈ T
        · rw [if_pos hm, List.append_nil]; exact hm
        · rw [if_neg hm]; simp
      rw [decide_eq_true hm]
      exact ⟨has_put_same h1.isMap (keyedJ.key (keyJ hy)) _, atKey_put_same h1.isMap (keyedJ.key (keyJ hy)) _ _⟩
    · have hm : (y ∈ T ++ if x ∈ T then [] else [x]) ↔ y ∈ T := by
        by_cases hm : x ∈ T
        · rw [if_pos hm, List.append_nil]
        · rw [if_neg hm]; simp [hxy]
      rw [has_put_other (by intro e; injection e with _ e; exact hxy e), atKey_put_other (by intro e; injection e with _ e; exact hxy e), (h2 y hy).1, (h2 y hy).2]
      have e : decide (y ∈ T ++ if x ∈ T then [] else [x]) = decide (y ∈ T) := by rw [Bool.eq_iff_iff]; simp only [decide_eq_true_eq]; exact hm
      rw [e]
      exact ⟨rfl, rfl⟩
  · rw [size_put (h1.tidy keyedJ), (h2 x hx).1, h3]
    by_cases hm : x ∈ T
    · rw [if_pos hm, if_pos (by simpa using hm), List.append_nil]
    · rw [if_neg hm, if_neg (by simpa using hm)]
      simp
end
/-- 'm[k] = true' for the walk. -/
theorem wpList_mapJ {ops : Array Oper} {rest : List Oper} {o : Oper} {a : Act} {w : World} {Q : Exit → Act → World → Prop} (hg : o.guard = none) (m x v : Operand) (hop : o.op = Op.mapUpdate 66 m x v)
    (B n : Nat) (T : List Int) (k : Int) (hm : a.eval m = .map (some B)) (hx : a.eval x = .int .i64 k) (hv : a.eval v = .bool true) (hk : (Lit.int .i64 k).wf = true) (hown : MapJ w B n T) (hn : n < maxLen)
    (hK : ∀ w', MapJ w' B (n + 1) (T ++ if k ∈ T then [] else [k]) → w.grownBy w' (some B) → wpList Tryd.prog ops Q rest (a.put o.dst undef) w') : wpList Tryd.prog ops Q (o :: rest) a w := by
  refine wpList_plain hg fun K' hK' => ?_
  obtain ⟨w', hrun, r1, r2⟩ := hown.store hn hk
  unfold Oper.wp
  simp [execOp, hop, hm, hx, hv, hrun, Result.andThen]
  exact hK' _ _ (hK w' r1 r2)
/-- the same in a literal. -/
theorem wpList_mapJi {ops : Array Oper} {rest : List Oper} {o : Oper} {a : Act} {w : World} {Q : Exit → Act → World → Prop} (hg : o.guard = none) (m x v : Operand) (hop : o.op = Op.insert 66 m x v)
    (B n : Nat) (T : List Int) (k : Int) (hm : a.eval m = .map (some B)) (hx : a.eval x = .int .i64 k) (hv : a.eval v = .bool true) (hk : (Lit.int .i64 k).wf = true) (hown : MapJ w B n T) (hn : n < maxLen)
    (hK : ∀ w', MapJ w' B (n + 1) (T ++ if k ∈ T then [] else [k]) → w.grownBy w' (some B) → wpList Tryd.prog ops Q rest (a.put o.dst undef) w') : wpList Tryd.prog ops Q (o :: rest) a w := by
  refine wpList_plain hg fun K' hK' => ?_
  obtain ⟨w', hrun, r1, r2⟩ := hown.store hn hk
  unfold Oper.wp
  simp [execOp, hop, hm, hx, hv, hrun, Result.andThen]
  exact hK' _ _ (hK w' r1 r2)
end Go.Proofs.YtpaglcojbcndoaaDoor

/-
  item: pure: a stream that ends behind an element, or within one.
-/
namespace Go.Proofs.YtpaglcojbcndoaaDoor
open Go.RowKit
set_option linter.unusedVariables false
set_option linter.unusedSimpArgs false
theorem take_ge {α : Type} {i : Nat} (a b : List α) (h : a.length ≤ i) : (a ++ b).take i = a ++ b.take (i - a.length) := by
  rw [List.take_append, List.take_of_length_le h]
theorem pnum_cut {n : Int} (h : InI n) {i : Nat} (X : List Int) (hi : i < (venc n).length) : pnum ((venc n ++ X).take i) = none := by
  have hp := pnum_venc h []
  rw [List.append_nil] at hp
  obtain ⟨h0, _, h2⟩ := pnum_some hp
  have hle := rdS_le (venc n)
  have hd := congrArg List.length h2
  simp only [List.length_drop, List.length_nil] at hd
  obtain ⟨v, hv⟩ : ∃ v, v = venc n := ⟨_, rfl⟩
  rw [← hv] at h0 hle hd hi ⊢
  clear hp h2 hv
  unfold pnum
  rw [if_pos]
  cases v with
  | nil => simp at hi
  | cons x r =>
    cases i with
    | zero => rfl
    | succ j =>
      simp only [List.length_cons] at hle hd hi
      simp only [List.cons_append, List.take_succ_cons]
      simp only [rdS] at h0 hle hd ⊢
      have hj : ((r ++ X).take j).length = j := by rw [List.length_take, List.length_append]; omega
      split at h0
      · exact absurd rfl h0
      · rename_i hn
        rw [if_neg hn] at hle hd
        simp only [List.length_cons] at hle hd ⊢
        rw [if_pos (by omega)]
theorem pnum_take {n : Int} (h : InI n) {i : Nat} (X : List Int) (hi : (venc n).length ≤ i) : pnum ((venc n ++ X).take i) = some (n, X.take (i - (venc n).length)) := by
  rw [take_ge _ _ hi]
  exact pnum_venc h _
theorem pBegin_cut {h : IH} (hk : IHOk h) (hb : beginOk h = true) (X : List Int) {i : Nat} (hi : i < (beginB h).length) : pBegin ((beginB h ++ X).take i) = .error 2 := by
  have h1 := hk.id
  have h2 := hk.gr
  obtain ⟨fe, id, gr, pr⟩ := h
  simp only at h1 h2
  unfold beginOk at hb
  unfold beginB at hi ⊢
  cases fe with
  | true =>
    simp only [if_true, Bool.and_eq_true, decide_eq_true_eq] at hb hi ⊢
    obtain ⟨he, rfl, rfl⟩ := hb
    have hin := encI_all he (by intro x hx; simp at hx; omega)
    rw [iencs_cons, iencs_cons, iencs_nil, List.append_nil] at hi ⊢
    rw [List.append_assoc]
    rw [List.length_append] at hi
    unfold pBegin
    by_cases c1 : i < (venc 5).length
    · rw [pnum_cut (hin 5 (by simp)) _ c1]
    · rw [pnum_take (hin 5 (by simp)) _ (by omega)]
      simp only [if_true]
      rw [pnum_cut (hin id (by simp)) _ (by omega)]
  | false =>
    simp only [Bool.false_eq_true, if_false] at hb hi ⊢
    have hin := encI_all hb (by intro x hx; simp at hx; omega)
    rw [iencs_cons, iencs_cons, iencs_cons, iencs_nil, List.append_nil] at hi ⊢
    rw [List.append_assoc, List.append_assoc, List.append_assoc]
    simp only [List.length_append, List.length_cons, List.length_nil] at hi
    unfold pBegin
    by_cases c1 : i < (venc 16).length
    · rw [pnum_cut (hin 16 (by simp)) _ c1]
    · rw [pnum_take (hin 16 (by simp)) _ (by omega)]
      simp only [show ¬ (16 : Int) = 5 by decide, if_true, if_false]
      by_cases c2 : i - (venc 16).length < (venc id).length
      · rw [pnum_cut (hin id (by simp)) _ c2]
      · rw [pnum_take (hin id (by simp)) _ (by omega)]
        simp only
        by_cases c3 : i - (venc 16).length - (venc id).length < (venc gr).length
        · rw [pnum_cut (hin gr (by simp)) _ c3]
        · rw [pnum_take (hin gr (by simp)) _ (by omega)]
          have : i - (venc 16).length - (venc id).length - (venc gr).length = 0 := by omega
          rw [this]
          rfl
theorem pText_cut {d : List Int} (hd : d.length ≤ 2048) (X : List Int) {i : Nat} (hi : i < (vtext d).length) : pText ((vtext d ++ X).take i) = .error 2 := by
  have hin : InI (d.length : Int) := ⟨by omega, by omega⟩
  have e : vtext d ++ X = venc (d.length : Int) ++ (d ++ X) := by simp [vtext]
  have hl : (vtext d).length = (venc (d.length : Int)).length + d.length := by simp [vtext]
  rw [e]
  rw [hl] at hi
  by_cases c1 : i < (venc (d.length : Int)).length
  · have := pnum_none (pnum_cut hin (d ++ X) c1)
    unfold pText
    rw [if_pos this]
  · obtain ⟨h0, h1, h2⟩ := pnum_some (pnum_take hin (d ++ X) (i := i) (by omega))
    unfold pText
    rw [if_neg h0, h1, if_neg (by omega), h2, if_pos (by rw [List.length_take, List.length_append]; omega)]
theorem pObj_cut {s : IRd} {h : IH} {o : OV} (hs : s.h = h) (hn : nextOk h o = true) (h0 : 0 ≤ o.grp ∧ 0 ≤ o.obj) (hl : (!s.some_ || lessI s.lg s.lo o.grp o.obj) = true) (X : List Int) {i : Nat} (hi : i < (nextB h o).length) :
    pObj s ((nextB h o ++ X).take i) = .error 2 := by
  obtain ⟨h1, h2, h3, h4⟩ := nextOk_iff hn
  have hin := encI_all h2 (by intro x hx; simp at hx; omega)
  obtain ⟨grp, obj, prio, gram, data⟩ := o
  simp only at h0 h1 h2 h3 h4 hin hl hi ⊢
  subst h3
  have tail : ∀ (g p : Int) (j : Nat), g = grp → j < (vtext data).length → pTail s g obj p ((vtext data ++ X).take j) = .error 2 := fun g p j e1 hj => by
    subst e1
    unfold pTail
    rw [if_pos hl, pText_cut h1 X hj]
  unfold pObj
  unfold nextB at hi ⊢
  rw [hs]
  by_cases hf : h.fe = true
  · simp only [hf, if_true] at hi ⊢
    rw [iencs_cons, iencs_cons, iencs_nil, List.append_nil] at hi ⊢
    rw [List.append_assoc, List.append_assoc, List.append_assoc]
    simp only [List.length_append, List.length_cons, List.length_nil] at hi
    by_cases c1 : i < (venc grp).length
    · rw [pnum_cut (hin grp (by simp)) _ c1]
    · rw [pnum_take (hin grp (by simp)) _ (by omega)]
      simp only
      by_cases c2 : i - (venc grp).length < (venc obj).length
      · rw [pnum_cut (hin obj (by simp)) _ c2]
      · rw [pnum_take (hin obj (by simp)) _ (by omega)]
        obtain ⟨j, hj⟩ : ∃ j, j = i - (venc grp).length - (venc obj).length := ⟨_, rfl⟩
        simp only
        rw [← hj]
        cases j with
        | zero => rfl
        | succ j =>
          simp only [List.cons_append, List.nil_append, List.take_succ_cons]
          exact tail grp prio j rfl (by omega)
  · obtain ⟨e1, e2⟩ := h4.resolve_left hf
    have hf2 : h.fe = false := by simpa using hf
    simp only [hf2, Bool.false_eq_true, if_false] at hi ⊢
    rw [iencs_cons, iencs_nil, List.append_nil] at hi ⊢
    rw [List.append_assoc]
    rw [List.length_append] at hi
    by_cases c2 : i < (venc obj).length
    · rw [pnum_cut (hin obj (by simp)) _ c2]
    · rw [pnum_take (hin obj (by simp)) _ (by omega)]
      exact tail h.gr h.pr _ e1.symm (by omega)
/-- Objects one behind the other. -/
def encs (h : IH) (os : List OV) : List Int := os.flatMap (nextB h)
/-- Where they end. -/
def offs (h : IH) : List OV → List Nat
  | [] => [0]
  | o :: r => 0 :: (offs h r).map (· + (nextB h o).length)
theorem encs_snoc (h : IH) (os : List OV) (o : OV) : encs h (os ++ [o]) = encs h os ++ nextB h o := by simp [encs]
theorem offs_snoc (h : IH) : ∀ (os : List OV) (o : OV) (y : Nat), y ∈ offs h (os ++ [o]) ↔ y ∈ offs h os ∨ y = (encs h os).length + (nextB h o).length
  | [], o, y => by simp [offs, encs]
  | x :: r, o, y => by
    simp only [List.cons_append, offs, List.mem_cons, List.mem_map]
    constructor
    · rintro (h0 | ⟨z, hz, rfl⟩)
      · exact .inl (.inl h0)
      · rcases (offs_snoc h r o z).1 hz with h1 | h1
        · exact .inl (.inr ⟨z, h1, rfl⟩)
        · right; rw [h1]; simp [encs]; omega
    · rintro ((h0 | ⟨z, hz, rfl⟩) | h0)
      · exact .inl h0
      · exact .inr ⟨z, (offs_snoc h r o z).2 (.inl hz), rfl⟩
      · exact .inr ⟨_, (offs_snoc h r o _).2 (.inr rfl), by rw [h0]; simp [encs]; omega⟩
abbrev lessO (a b : OV) : Prop := lessI a.grp a.obj b.grp b.obj = true
theorem objs_run (h : IH) : ∀ (os : List OV) (s : IRd) (n j : Nat), s.begun = true → s.h = h → (∀ o ∈ os, nextOk h o = true ∧ 0 ≤ o.grp ∧ 0 ≤ o.obj) → os.Pairwise lessO → (s.some_ = false ∨ ∀ o ∈ os, lessI s.lg s.lo o.grp o.obj = true) → j < n → j ≤ (encs h os).length →
    (pRun n s ((encs h os).take j)).2.2.2 = if j ∈ offs h os then 0 else 2
  | [], s, n, j, hb, hs, ho, hp, hl, hn, hj => by
    obtain ⟨m, rfl⟩ : ∃ m, n = m + 1 := ⟨n - 1, by omega⟩
    have hj0 : j = 0 := by simpa [encs] using hj
    subst hj0
    rw [if_pos (by simp [offs])]
    exact congrArg (fun r => r.2.2.2) (pRun_end (n := m) (s := s) (l := []) hb)
  | o :: r, s, n, j, hb, hs, ho, hp, hl, hn, hj => by
    obtain ⟨m, rfl⟩ : ∃ m, n = m + 1 := ⟨n - 1, by omega⟩
    obtain ⟨ok, g0⟩ := ho o (by simp)
    have hcond : (!s.some_ || lessI s.lg s.lo o.grp o.obj) = true := by
      rcases hl with hl | hl
      · rw [hl]; rfl
      · rw [hl o (by simp)]; simp
    have e : encs h (o :: r) = nextB h o ++ encs h r := by simp [encs]
    have hpos : 0 < (nextB h o).length := by
      have := nextB_ne ok g0 []
      rw [List.append_nil] at this
      exact List.length_pos_iff.2 this
    rw [e] at hj ⊢
    rw [List.length_append] at hj
    by_cases j0 : j = 0
    · subst j0
      rw [if_pos (by simp [offs])]
      exact congrArg (fun r => r.2.2.2) (pRun_end (n := m) (s := s) (l := []) hb)
    · have hmem : j ∈ offs h (o :: r) ↔ (nextB h o).length ≤ j ∧ j - (nextB h o).length ∈ offs h r := by
        simp only [offs, List.mem_cons, List.mem_map]
        constructor
        · rintro (h0 | ⟨z, hz, rfl⟩)
          · exact absurd h0 j0
          · exact ⟨by omega, by rw [Nat.add_sub_cancel]; exact hz⟩
        · rintro ⟨h1, h2⟩
          exact .inr ⟨_, h2, by omega⟩
      by_cases c : j < (nextB h o).length
      · rw [if_neg (fun hm => by have := (hmem.1 hm).1; omega)]
        have hll : ((nextB h o ++ encs h r).take j).length = j := by rw [List.length_take, List.length_append]; omega
        have hne : (nextB h o ++ encs h r).take j ≠ [] := fun e2 => by
          rw [e2] at hll
          exact j0 hll.symm
        rw [pRun_objNE hb hne (pObj_cut hs ok g0 hcond _ c)]
      · have hll : ((nextB h o ++ encs h r).take j).length = j := by rw [List.length_take, List.length_append]; omega
        have hne : (nextB h o ++ encs h r).take j ≠ [] := fun e2 => by
          rw [e2] at hll
          exact j0 hll.symm
        rw [take_ge _ _ (by omega)] at hne ⊢
        rw [pRun_objN hb hne (by rw [pObj_enc hs ok g0, if_pos hcond])]
        have ih := objs_run h r (s.aft o) m (j - (nextB h o).length) hb hs (fun x hx => ho x (List.mem_cons_of_mem _ hx)) (List.pairwise_cons.1 hp).2 (.inr (fun x hx => (List.pairwise_cons.1 hp).1 x hx)) (by omega) (by omega)
        show (pRun m (s.aft o) ((encs h r).take (j - (nextB h o).length))).2.2.2 = _
        rw [ih]
        by_cases hm : j - (nextB h o).length ∈ offs h r
        · rw [if_pos hm, if_pos (hmem.2 ⟨by omega, hm⟩)]
        · rw [if_neg hm, if_neg (fun x => hm (hmem.1 x).2)]
theorem ends_run {h : IH} {os : List OV} {s : IRd} {n k : Nat} (hk : IHOk h) (hb : beginOk h = true) (s1 : s.begun = false) (s2 : s.some_ = false) (ho : ∀ o ∈ os, nextOk h o = true ∧ 0 ≤ o.grp ∧ 0 ≤ o.obj) (hp : os.Pairwise lessO) (hn : k + 1 < n) (hle : k ≤ (beginB h ++ encs h os).length) :
    (pRun n s ((beginB h ++ encs h os).take k)).2.2.2 = if (beginB h).length ≤ k ∧ k - (beginB h).length ∈ offs h os then 0 else 2 := by
  obtain ⟨m, rfl⟩ : ∃ m, n = m + 1 := ⟨n - 1, by omega⟩
  by_cases c : k < (beginB h).length
  · rw [if_neg (fun e => by omega)]
    exact congrArg (fun r => r.2.2.2) (pRun_hdE (l := []) s1 (pBegin_cut hk hb _ c))
  · rw [take_ge _ _ (by omega)]
    have e := pRun_hd (n := m) (l := []) s1 (pBegin_enc hk hb ((encs h os).take (k - (beginB h).length)))
    have e2 := congrArg (fun r => r.2.2.2) e
    rw [List.length_append] at hle
    have ih := objs_run h os (s.hd h) m (k - (beginB h).length) rfl rfl ho hp (.inl s2) (by omega) (by omega)
    refine (show (pRun (m + 1) s (beginB h ++ (encs h os).take (k - (beginB h).length))).2.2.2 = (pRun m (s.hd h) ((encs h os).take (k - (beginB h).length))).2.2.2 from e2).trans (ih.trans ?_)
    by_cases hm : k - (beginB h).length ∈ offs h os
    · rw [if_pos hm, if_pos ⟨by omega, hm⟩]
    · rw [if_neg hm, if_neg (fun x => hm x.2)]
end Go.Proofs.YtpaglcojbcndoaaDoor
