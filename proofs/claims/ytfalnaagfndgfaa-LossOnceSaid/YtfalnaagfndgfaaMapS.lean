/-
  A set of numbers: map[uint64]bool, where all that is stored is true.
-/
import Derived.Test.YtfalnaagfndgfaaInts
import Derived.Test.YtfalnaagfndgfaaOpenT
import Derived.Maps.OwnSet
import Derived.Maps.OwnOps
namespace Go.Proofs.Ytfalnaagfndgfaa
open Go.RowKit Go.Maps
set_option linter.unusedVariables false
set_option linter.unusedSimpArgs false
theorem keyedU : Keyed Try.prog 28 := int_keyed Try.underlying28
theorem keyU {x : Int} (hx : (Lit.int .u64 x).wf = true) : keyOf Try.prog 28 (.int .u64 x) = some (.int .u64 x) := keyOf_int_mk Try.underlying28 hx
theorem wfU {x : Int} (h0 : 0 ≤ x) (h1 : x < 18446744073709551616) : (Lit.int .u64 x).wf = true := WalkArith.wf_u64 (by omega)
def RBool : Value → Option (DataW Unit × List MemPlace)
  | .bool b => some (.lit (.bool b), [])
  | _ => none
theorem RBool_inv {v : Value} {b : Bool} {ps : List MemPlace} (h : RBool v = some (.lit (.bool b), ps)) : v = .bool b := by
  unfold RBool at h
  split at h
  · injection h with h
    injection h with h
    injection h with h
    injection h with h
    rw [h]
  · cases h
theorem zeroB (w : World) : (zeroValue 4).run Try.prog w = .ok (.bool false) w := by kernel_rfl
/-- Block B is a set of at most n entries: the numbers of T. -/
def MapS (w : World) (B n : Nat) (T : List Int) : Prop :=
  ∃ D : DataW Unit, w.ownsMap Try.prog 28 RBool B n D ∧ (∀ x : Int, (Lit.int .u64 x).wf = true → Maps.has D (.int .u64 x) = decide (x ∈ T) ∧ D.atKey (.int .u64 x) (.lit (.bool false)) = .lit (.bool (decide (x ∈ T)))) ∧ Maps.size D = T.length
theorem MapS.made (w : World) : MapS (w.alloc (.map #[] 0)) w.heap.size 0 [] :=
  ⟨.map [], World.ownsMap_made _ _ _ _, fun x hx => ⟨rfl, rfl⟩, rfl⟩
section
variable {w w' : World} {B n : Nat} {T : List Int}
theorem MapS.kept {row : Option Nat} (h : MapS w B n T) (hg : w.grownBy w' row) (hne : some B ≠ row) : MapS w' B n T := by
  obtain ⟨D, h1, h2⟩ := h
  exact ⟨D, h1.kept hg hne, h2⟩
theorem MapS.alloc (h : MapS w B n T) (o : Obj) : MapS (w.alloc o) B n T := h.kept (World.grownBy_alloc w o none) (by simp)
theorem MapS.drewN (h : MapS w B n T) (k : Nat) : MapS (w.drewN k) B n T := by
  obtain ⟨D, h1, h2⟩ := h
  exact ⟨D, h1, h2⟩
theorem MapS.mono (h : MapS w B n T) {m : Nat} (hm : n ≤ m) : MapS w B m T := by
  obtain ⟨D, h1, h2⟩ := h
  exact ⟨D, h1.mono hm, h2⟩
theorem MapS.lt (h : MapS w B n T) : B < w.heap.size := by
  obtain ⟨D, h1, h2⟩ := h
  exact h1.lt
theorem MapS.obj (h : MapS w B n T) : ∃ es ck, w.heap[B]? = some (.map es ck) := by
  obtain ⟨D, ⟨es, ck, hb, _⟩, _⟩ := h
  exact ⟨es, ck, hb⟩
theorem MapS.ne_blk {g : Nat} {t : TypeId} {cs : Array Value} (h : MapS w B n T) (k : Blk w g t cs) : g ≠ B := by
  obtain ⟨es, ck, hb⟩ := h.obj
  intro e
  subst e
  rw [show w.heap[g]? = _ from k] at hb
  cases hb
theorem MapS.below (h : MapS w B n T) (hb : Below w.heap.size w w') : MapS w' B n T := h.kept (row := none) ⟨hb.os, hb.tape, hb.output, hb.size, fun i hi _ => hb.block i hi⟩ (by simp)
theorem MapS.len (h : MapS w B n T) (ty : TypeId) : (Builtin.len_ #[64] ty #[.map (some B)]).run Try.prog w = .ok (.int .i64 (T.length : Int)) w := by
  obtain ⟨D, h1, _, h3⟩ := h
  rw [← h3]
  exact h1.len Try.underlying64 ty
theorem MapS.look (h : MapS w B n T) {x : Int} (hx : (Lit.int .u64 x).wf = true) : (Instr.lookup 64 (.map (some B)) (.int .u64 x) false).run Try.prog w = .ok (.bool (decide (x ∈ T))) w := by
  obtain ⟨D, h1, h2, _⟩ := h
  obtain ⟨v, ps, hrun, hv⟩ := h1.lookup keyedU Try.underlying64 (zeroB w) (show RBool (.bool false) = some (.lit (.bool false), []) from rfl) (keyU hx)
  rw [(h2 x hx).2] at hv
  rw [hrun, RBool_inv hv]
theorem MapS.store (h : MapS w B n T) (hn : n < maxLen) {x : Int} (hx : (Lit.int .u64 x).wf = true) :
    ∃ w', (Instr.mapUpdate 64 (.map (some B)) (.int .u64 x) (.bool true)).run Try.prog w = .ok () w' ∧ MapS w' B (n + 1) (T ++ if x ∈ T then [] else [x]) ∧ w.grownBy w' (some B) := by
  obtain ⟨D, h1, h2, h3⟩ := h
  obtain ⟨w', hrun, r1, r2⟩ := h1.update keyedU Try.underlying64 hn (keyU hx) (show RBool (.bool true) = some (.lit (.bool true), []) from rfl)
  refine ⟨w', hrun, ⟨_, r1, fun y hy => ?_, ?_⟩, r2⟩
  · by_cases hxy : y = x
    · subst hxy
      have hm : y ∈ T ++ (if y ∈ T then [] else [y]) := by
        by_cases hm : y ∈ T
        · rw [if_pos hm, List.append_nil]; exact hm
        · rw [if_neg hm]; simp
      rw [decide_eq_true hm]
      exact ⟨has_put_same h1.isMap (keyedU.key (keyU hy)) _, atKey_put_same h1.isMap (keyedU.key (keyU hy)) _ _⟩
    · have hm : (y ∈ T ++ if x ∈ T then [] else [x]) ↔ y ∈ T := by
        by_cases hm : x ∈ T
        · rw [if_pos hm, List.append_nil]
        · rw [if_neg hm]; simp [hxy]
      rw [has_put_other (by intro e; injection e with _ e; exact hxy e), atKey_put_other (by intro e; injection e with _ e; exact hxy e), (h2 y hy).1, (h2 y hy).2]
      have e : decide (y ∈ T ++ if x ∈ T then [] else [x]) = decide (y ∈ T) := by rw [Bool.eq_iff_iff]; simp only [decide_eq_true_eq]; exact hm
      rw [e]
      exact ⟨rfl, rfl⟩
  · rw [size_put (h1.tidy keyedU), (h2 x hx).1, h3]
    by_cases hm : x ∈ T
    · rw [if_pos hm, if_pos (by simpa using hm), List.append_nil]
    · rw [if_neg hm, if_neg (by simpa using hm)]
      simp
end
/-- 'm[k] = true' for the walk. -/
theorem wpList_mapS {ops : Array Oper} {rest : List Oper} {o : Oper} {a : Act} {w : World} {Q : Exit → Act → World → Prop} (hg : o.guard = none) (m x v : Operand) (hop : o.op = Op.mapUpdate 64 m x v)
    (B n : Nat) (T : List Int) (k : Int) (hm : a.eval m = .map (some B)) (hx : a.eval x = .int .u64 k) (hv : a.eval v = .bool true) (hk : (Lit.int .u64 k).wf = true) (hown : MapS w B n T) (hn : n < maxLen)
    (hK : ∀ w', MapS w' B (n + 1) (T ++ if k ∈ T then [] else [k]) → w.grownBy w' (some B) → wpList Try.prog ops Q rest (a.put o.dst undef) w') : wpList Try.prog ops Q (o :: rest) a w := by
  refine wpList_plain hg fun K' hK' => ?_
  obtain ⟨w', hrun, r1, r2⟩ := hown.store hn hk
  unfold Oper.wp
  simp [execOp, hop, hm, hx, hv, hrun, Result.andThen]
  exact hK' _ _ (hK w' r1 r2)
end Go.Proofs.Ytfalnaagfndgfaa
