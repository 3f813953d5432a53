/-
  A set of numbers: map[uint64]struct{}.
-/
import Derived.Test.YtdcjnkakibeigaaDoorInts
import Derived.Test.YtdcjnkakibeigaaDoorOpenT
import Derived.Maps.OwnSet
import Derived.Maps.OwnOps
namespace Go.Proofs.YtdcjnkakibeigaaDoor
open Go.RowKit Go.Maps
set_option linter.unusedVariables false
set_option linter.unusedSimpArgs false
theorem keyedU : Keyed Tryd.prog 22 := int_keyed Tryd.underlying22
theorem keyU {x : Int} (hx : (Lit.int .u64 x).wf = true) : keyOf Tryd.prog 22 (.int .u64 x) = some (.int .u64 x) := keyOf_int_mk Tryd.underlying22 hx
theorem wfU {x : Int} (h0 : 0 ≤ x) (h1 : x < 18446744073709551616) : (Lit.int .u64 x).wf = true := WalkArith.wf_u64 (by omega)
def REmp : Value → Option (DataW Unit × List MemPlace)
  | .agg cs => if cs.size = 0 then some (.lit (.bool true), []) else none
  | _ => none
theorem REmp_inv {v : Value} {d : DataW Unit} {ps : List MemPlace} (h : REmp v = some (d, ps)) : v = .agg #[] := by
  cases v with
  | agg cs =>
    simp only [REmp] at h
    split at h
    · rename_i e; rw [Array.eq_empty_of_size_eq_zero e]
    · cases h
  | _ => simp [REmp] at h
theorem zeroE (w : World) : (zeroValue 96).run Tryd.prog w = .ok (.agg #[]) w := by kernel_rfl
/-- Block B is a set of at most n entries: the numbers of T. -/
def MapE (w : World) (B n : Nat) (T : List Int) : Prop :=
  ∃ D : DataW Unit, w.ownsMap Tryd.prog 22 REmp B n D ∧ (∀ x : Int, (Lit.int .u64 x).wf = true → Maps.has D (.int .u64 x) = decide (x ∈ T) ∧ D.atKey (.int .u64 x) (.lit (.bool true)) = .lit (.bool true)) ∧ Maps.size D = T.length
theorem MapE.made (w : World) : MapE (w.alloc (.map #[] 0)) w.heap.size 0 [] :=
  ⟨.map [], World.ownsMap_made _ _ _ _, fun x hx => ⟨rfl, rfl⟩, rfl⟩
section
variable {w w' : World} {B n : Nat} {T : List Int}
theorem MapE.kept {row : Option Nat} (h : MapE w B n T) (hg : w.grownBy w' row) (hne : some B ≠ row) : MapE w' B n T := by
  obtain ⟨D, h1, h2⟩ := h
  exact ⟨D, h1.kept hg hne, h2⟩
theorem MapE.alloc (h : MapE w B n T) (o : Obj) : MapE (w.alloc o) B n T := h.kept (World.grownBy_alloc w o none) (by simp)
theorem MapE.drewN (h : MapE w B n T) (k : Nat) : MapE (w.drewN k) B n T := by
  obtain ⟨D, h1, h2⟩ := h
  exact ⟨D, h1, h2⟩
theorem MapE.mono (h : MapE w B n T) {m : Nat} (hm : n ≤ m) : MapE w B m T := by
  obtain ⟨D, h1, h2⟩ := h
  exact ⟨D, h1.mono hm, h2⟩
theorem MapE.lt (h : MapE w B n T) : B < w.heap.size := by
  obtain ⟨D, h1, h2⟩ := h
  exact h1.lt
theorem MapE.obj (h : MapE w B n T) : ∃ es ck, w.heap[B]? = some (.map es ck) := by
  obtain ⟨D, ⟨es, ck, hb, _⟩, _⟩ := h
  exact ⟨es, ck, hb⟩
theorem MapE.ne_blk {g : Nat} {t : TypeId} {cs : Array Value} (h : MapE w B n T) (k : Blk w g t cs) : g ≠ B := by
  obtain ⟨es, ck, hb⟩ := h.obj
  intro e
  subst e
  rw [show w.heap[g]? = _ from k] at hb
  cases hb
theorem MapE.below (h : MapE w B n T) (hb : Below w.heap.size w w') : MapE w' B n T := h.kept (row := none) ⟨hb.os, hb.tape, hb.output, hb.size, fun i hi _ => hb.block i hi⟩ (by simp)
theorem MapE.len (h : MapE w B n T) (ty : TypeId) : (Builtin.len_ #[62] ty #[.map (some B)]).run Tryd.prog w = .ok (.int .i64 (T.length : Int)) w := by
  obtain ⟨D, h1, _, h3⟩ := h
  rw [← h3]
  exact h1.len Tryd.underlying62 ty
theorem MapE.look (h : MapE w B n T) {x : Int} (hx : (Lit.int .u64 x).wf = true) : (Instr.lookup 62 (.map (some B)) (.int .u64 x) true).run Tryd.prog w = .ok (.tuple #[.agg #[], .bool (decide (x ∈ T))]) w := by
  obtain ⟨D, h1, h2, _⟩ := h
  obtain ⟨v, ps, hrun, hv⟩ := h1.look_ok keyedU Tryd.underlying62 (zeroE w) (show REmp (.agg #[]) = some (.lit (.bool true), []) from rfl) (keyU hx)
  rw [hrun, REmp_inv hv, (h2 x hx).1]
theorem MapE.store (h : MapE w B n T) (hn : n < maxLen) {x : Int} (hx : (Lit.int .u64 x).wf = true) :
    ∃ w', (Instr.mapUpdate 62 (.map (some B)) (.int .u64 x) (.agg #[])).run Tryd.prog w = .ok () w' ∧ MapE w' B (n + 1) (T ++ if x ∈ T then [] else [x]) ∧ w.grownBy w' (some B) := by
  obtain ⟨D, h1, h2, h3⟩ := h
  obtain ⟨w', hrun, r1, r2⟩ := h1.update keyedU Tryd.underlying62 hn (keyU hx) (show REmp (.agg #[]) = some (.lit (.bool true), []) from rfl)
  refine ⟨w', hrun, ⟨_, r1, fun y hy => ?_, ?_⟩, r2⟩
  · by_cases hxy : y = x
    · subst hxy
      have hm : y ∈ T ++ (if y ∈ T then [] else [y]) := by
        by_cases hm : y ∈ T
        · rw [if_pos hm, List.append_nil]; exact hm
        · rw [if_neg hm]; simp
      rw [decide_eq_true hm]
      exact ⟨has_put_same h1.isMap (keyedU.key (keyU hy)) _, atKey_put_same h1.isMap (keyedU.key (keyU hy)) _ _⟩
    · have hm : (y ∈ T ++ if x ∈ T then [] else [x]) ↔ y ∈ T := by
        by_cases hm : x ∈ T
        · rw [if_pos hm, List.append_nil]
        · rw [if_neg hm]; simp [hxy]
      rw [has_put_other (by intro e; injection e with _ e; exact hxy e), atKey_put_other (by intro e; injection e with _ e; exact hxy e), (h2 y hy).1, (h2 y hy).2]
      have e : decide (y ∈ T ++ if x ∈ T then [] else [x]) = decide (y ∈ T) := by rw [Bool.eq_iff_iff]; simp only [decide_eq_true_eq]; exact hm
      rw [e]
      exact ⟨rfl, rfl⟩
  · rw [size_put (h1.tidy keyedU), (h2 x hx).1, h3]
    by_cases hm : x ∈ T
    · rw [if_pos hm, if_pos (by simpa using hm), List.append_nil]
    · rw [if_neg hm, if_neg (by simpa using hm)]
      simp
end
/-- 'm[k] = struct{}{}' for the walk. -/
theorem wpList_mapE {ops : Array Oper} {rest : List Oper} {o : Oper} {a : Act} {w : World} {Q : Exit → Act → World → Prop} (hg : o.guard = none) (m x v : Operand) (hop : o.op = Op.mapUpdate 62 m x v)
    (B n : Nat) (T : List Int) (k : Int) (hm : a.eval m = .map (some B)) (hx : a.eval x = .int .u64 k) (hv : a.eval v = .agg #[]) (hk : (Lit.int .u64 k).wf = true) (hown : MapE w B n T) (hn : n < maxLen)
    (hK : ∀ w', MapE w' B (n + 1) (T ++ if k ∈ T then [] else [k]) → w.grownBy w' (some B) → wpList Tryd.prog ops Q rest (a.put o.dst undef) w') : wpList Tryd.prog ops Q (o :: rest) a w := by
  refine wpList_plain hg fun K' hK' => ?_
  obtain ⟨w', hrun, r1, r2⟩ := hown.store hn hk
  unfold Oper.wp
  simp [execOp, hop, hm, hx, hv, hrun, Result.andThen]
  exact hK' _ _ (hK w' r1 r2)
end Go.Proofs.YtdcjnkakibeigaaDoor
