/-
  A set of numbers (map[uint64]bool) beside a quilt.
-/
import Derived.Test.YtdafeokjedmnkaaDoorQuiltM
import Derived.Maps.OwnSet
namespace Go.Proofs.YtdafeokjedmnkaaDoor
open Go.RowKit Go.Maps
set_option linter.unusedVariables false
set_option linter.unusedSimpArgs false
def RBool : Value → Option (DataW Unit × List MemPlace)
  | .bool b => some (.lit (.bool b), [])
  | _ => none
/-- Block B is a set of at most n entries: the numbers of T. -/
def MapB (w : World) (B n : Nat) (T : List Int) : Prop :=
  ∃ D : DataW Unit, w.ownsMap Tryd.prog 28 RBool B n D ∧ (∀ x : Int, (Lit.int .u64 x).wf = true → Maps.has D (.int .u64 x) = decide (x ∈ T)) ∧ Maps.size D = T.length
theorem MapB.made (w : World) : MapB (w.alloc (.map #[] 0)) w.heap.size 0 [] :=
  ⟨.map [], World.ownsMap_made _ _ _ _, fun x hx => rfl, rfl⟩
section
variable {w w' : World} {B n : Nat} {T : List Int}
theorem MapB.kept {row : Option Nat} (h : MapB w B n T) (hg : w.grownBy w' row) (hne : some B ≠ row) : MapB w' B n T := by
  obtain ⟨D, h1, h2⟩ := h
  exact ⟨D, h1.kept hg hne, h2⟩
theorem MapB.alloc (h : MapB w B n T) (o : Obj) : MapB (w.alloc o) B n T := h.kept (World.grownBy_alloc w o none) (by simp)
theorem MapB.drewN (h : MapB w B n T) (k : Nat) : MapB (w.drewN k) B n T := by
  obtain ⟨D, h1, h2⟩ := h
  exact ⟨D, h1, h2⟩
theorem MapB.mono (h : MapB w B n T) {m : Nat} (hm : n ≤ m) : MapB w B m T := by
  obtain ⟨D, h1, h2⟩ := h
  exact ⟨D, h1.mono hm, h2⟩
theorem MapB.lt (h : MapB w B n T) : B < w.heap.size := by
  obtain ⟨D, h1, h2⟩ := h
  exact h1.lt
theorem MapB.obj (h : MapB w B n T) : ∃ es ck, w.heap[B]? = some (.map es ck) := by
  obtain ⟨D, ⟨es, ck, hb, _⟩, _⟩ := h
  exact ⟨es, ck, hb⟩
theorem MapB.below (h : MapB w B n T) (hb : Below w.heap.size w w') : MapB w' B n T := h.kept (row := none) ⟨hb.os, hb.tape, hb.output, hb.size, fun i hi _ => hb.block i hi⟩ (by simp)
theorem MapB.keep {g : Nat} (h : MapB w B n T) (hk : KeepT w w' g) (hne : w.cell? ⟨g, 0, none⟩ ≠ some (.map (some B))) : MapB w' B n T := by
  obtain ⟨D, ⟨es, ck, hb, r⟩, h2⟩ := h
  exact ⟨D, ⟨es, ck, (hk.2 B es ck hb hne).1, r⟩, h2⟩
theorem MapB.len (h : MapB w B n T) (ty : TypeId) : (Builtin.len_ #[59] ty #[.map (some B)]).run Tryd.prog w = .ok (.int .i64 (T.length : Int)) w := by
  obtain ⟨D, h1, _, h3⟩ := h
  rw [← h3]
  exact h1.len Tryd.underlying59 ty
theorem MapB.store (h : MapB w B n T) (hn : n < maxLen) {x : Int} (hx : (Lit.int .u64 x).wf = true) :
    ∃ w', (Instr.mapUpdate 59 (.map (some B)) (.int .u64 x) (.bool true)).run Tryd.prog w = .ok () w' ∧ MapB w' B (n + 1) (T ++ if x ∈ T then [] else [x]) ∧ w.grownBy w' (some B) := by
  obtain ⟨D, h1, h2, h3⟩ := h
  obtain ⟨w', hrun, r1, r2⟩ := h1.update keyedU Tryd.underlying59 hn (keyU hx) (show RBool (.bool true) = some (.lit (.bool true), []) from rfl)
  refine ⟨w', hrun, ⟨_, r1, fun y hy => ?_, ?_⟩, r2⟩
  · by_cases hxy : y = x
    · subst hxy
      rw [has_put_same h1.isMap (keyedU.key (keyU hy))]
      symm
      rw [decide_eq_true_iff]
      by_cases hm : y ∈ T
      · rw [if_pos hm, List.append_nil]; exact hm
      · rw [if_neg hm]; simp
    · rw [has_put_other (by intro e; injection e with _ e; exact hxy e), h2 y hy]
      by_cases hm : x ∈ T
      · rw [if_pos hm, List.append_nil]
      · rw [if_neg hm]; simp [hxy]
  · rw [size_put (h1.tidy keyedU), h2 x hx, h3]
    by_cases hm : x ∈ T
    · rw [if_pos hm, if_pos (by simpa using hm), List.append_nil]
    · rw [if_neg hm, if_neg (by simpa using hm)]
      simp
end
/-- 'm[k] = true' for the walk. -/
theorem wpList_mapB {ops : Array Oper} {rest : List Oper} {o : Oper} {a : Act} {w : World} {Q : Exit → Act → World → Prop} (hg : o.guard = none) (m x v : Operand) (hop : o.op = Op.mapUpdate 59 m x v)
    (B n : Nat) (T : List Int) (k : Int) (hm : a.eval m = .map (some B)) (hx : a.eval x = .int .u64 k) (hv : a.eval v = .bool true) (hk : (Lit.int .u64 k).wf = true) (hown : MapB w B n T) (hn : n < maxLen)
    (hK : ∀ w', MapB w' B (n + 1) (T ++ if k ∈ T then [] else [k]) → w.grownBy w' (some B) → wpList Tryd.prog ops Q rest (a.put o.dst undef) w') : wpList Tryd.prog ops Q (o :: rest) a w := by
  refine wpList_plain hg fun K' hK' => ?_
  obtain ⟨w', hrun, r1, r2⟩ := hown.store hn hk
  unfold Oper.wp
  simp [execOp, hop, hm, hx, hv, hrun, Result.andThen]
  exact hK' _ _ (hK w' r1 r2)
/-- A quilt stands while another map is written. -/
theorem Qlt.map {w w' : World} {base g n B : Nat} {s : QS} {es : Array MapEntry} {ck : Nat} (h : Qlt w base g n s) (hB : w.heap[B]? = some (.map es ck)) (hne : w.cell? ⟨g, 0, none⟩ ≠ some (.map (some B))) (hg : w.grownBy w' (some B)) : Qlt w' base g n s := by
  obtain ⟨M, h1, h2⟩ := h.q
  have hno : ∀ q T cs, Blk w q T cs → some q ≠ some B := fun q T cs hb e => by
    injection e with e
    subst e
    rw [show w.heap[q]? = _ from hb] at hB
    cases hB
  have c0 := h1.cell 0
  simp [QV] at c0
  refine ⟨⟨M, h1.grown hg (hno _ _ _ h1), ?_⟩, h.ok, h.hg⟩
  rcases h2 with h2 | ⟨B', pt, h2, h3⟩
  · exact .inl h2
  · refine .inr ⟨B', pt, h2, h3.grown hg (fun e => ?_) (fun j gp hj => ?_)⟩
    · injection e with e
      subst e
      subst h2
      exact hne c0
    · obtain ⟨cs, hb⟩ := h3.block hj
      exact hno _ _ _ hb
theorem Qlt.other {w w' : World} {base g n B : Nat} {s : QS} (h : Qlt w base g n s) (hne : w.cell? ⟨g, 0, none⟩ ≠ some (.map (some B))) (hg : w.grownBy w' (some B)) (hgB : g ≠ B) : w'.cell? ⟨g, 0, none⟩ ≠ some (.map (some B)) := by
  rw [World.cell?_of_block (w := w) (a := ⟨g, 0, none⟩) (hg.block g h.lt (by intro e; injection e with e; exact hgB e))]
  exact hne
theorem Qlt.neM {w : World} {base g n B : Nat} {s : QS} {es : Array MapEntry} {ck : Nat} (h : Qlt w base g n s) (hB : w.heap[B]? = some (.map es ck)) : g ≠ B := by
  obtain ⟨M, h1, _⟩ := h.q
  intro e
  subst e
  rw [show w.heap[g]? = _ from h1] at hB
  cases hB
theorem cell0_below {w w' : World} {base g n B : Nat} {s : QS} (h : Qlt w base g n s) (hne : w.cell? ⟨g, 0, none⟩ ≠ some (.map (some B))) (hb : Below w.heap.size w w') : w'.cell? ⟨g, 0, none⟩ ≠ some (.map (some B)) := by
  rw [hb.cell (p := ⟨g, 0, none⟩) h.lt]
  exact hne
end Go.Proofs.YtdafeokjedmnkaaDoor
