/-
  Counts by number: map[uint64]int.
-/
import Derived.Test.YtfalnaagfndgfaaMapS
import Derived.Maps.RangeWalk
namespace Go.Proofs.Ytfalnaagfndgfaa
open Go.RowKit Go.Maps
set_option linter.unusedVariables false
set_option linter.unusedSimpArgs false
set_option maxRecDepth 100000
theorem zeroI (w : World) : (zeroValue 3).run Try.prog w = .ok (.int .i64 0) w := by kernel_rfl
/-- Block B maps numbers as f says, made by at most n stores. -/
def MapC (w : World) (B n : Nat) (f : Int → Option Int) : Prop :=
  ∃ D : DataW Unit, w.ownsMap Try.prog 28 (plainElem Try.prog 3) B n D ∧ (∀ x : Int, (Lit.int .u64 x).wf = true → Maps.has D (.int .u64 x) = (f x).isSome ∧ D.atKey (.int .u64 x) (.lit (.int .i64 0)) = .lit (.int .i64 ((f x).getD 0)))
theorem MapC.made (w : World) : MapC (w.alloc (.map #[] 0)) w.heap.size 0 (fun _ => none) :=
  ⟨.map [], World.ownsMap_made _ _ _ _, fun x hx => ⟨rfl, rfl⟩⟩
section
variable {w w' : World} {B n : Nat} {f : Int → Option Int}
theorem MapC.kept {row : Option Nat} (h : MapC w B n f) (hg : w.grownBy w' row) (hne : some B ≠ row) : MapC w' B n f := by
  obtain ⟨D, h1, h2⟩ := h
  exact ⟨D, h1.kept hg hne, h2⟩
theorem MapC.alloc (h : MapC w B n f) (o : Obj) : MapC (w.alloc o) B n f := h.kept (World.grownBy_alloc w o none) (by simp)
theorem MapC.mono (h : MapC w B n f) {m : Nat} (hm : n ≤ m) : MapC w B m f := by
  obtain ⟨D, h1, h2⟩ := h
  exact ⟨D, h1.mono hm, h2⟩
theorem MapC.lt (h : MapC w B n f) : B < w.heap.size := by
  obtain ⟨D, h1, h2⟩ := h
  exact h1.lt
theorem MapC.obj (h : MapC w B n f) : ∃ es ck, w.heap[B]? = some (.map es ck) := by
  obtain ⟨D, ⟨es, ck, hb, _⟩, _⟩ := h
  exact ⟨es, ck, hb⟩
theorem MapC.ne (h : MapC w B n f) {g : Nat} {t : TypeId} {cs : Array Value} (k : Blk w g t cs) : g ≠ B := by
  obtain ⟨es, ck, hb⟩ := h.obj
  intro e
  subst e
  rw [show w.heap[g]? = _ from k] at hb
  cases hb
theorem MapC.below (h : MapC w B n f) (hb : Below w.heap.size w w') : MapC w' B n f := h.kept (row := none) ⟨hb.os, hb.tape, hb.output, hb.size, fun i hi _ => hb.block i hi⟩ (by simp)
theorem MapC.look (h : MapC w B n f) {x : Int} (hx : (Lit.int .u64 x).wf = true) : (Instr.lookup 59 (.map (some B)) (.int .u64 x) false).run Try.prog w = .ok (.int .i64 ((f x).getD 0)) w := by
  obtain ⟨D, h1, h2⟩ := h
  obtain ⟨v, ps, hrun, hv⟩ := h1.lookup keyedU Try.underlying59 (zeroI w) (plainElem_int Try.underlying3 (by decide)) (keyU hx)
  rw [(h2 x hx).2] at hv
  obtain ⟨c, rfl, hc, _⟩ := plainElem_int_inv Try.underlying3 hv
  injection hc with hc _
  injection hc with hc
  injection hc with _ hc
  rw [hc]
  exact hrun
theorem MapC.store (h : MapC w B n f) (hn : n < maxLen) {x b : Int} (hx : (Lit.int .u64 x).wf = true) (hb : (Lit.int .i64 b).wf = true) :
    ∃ w', (Instr.mapUpdate 59 (.map (some B)) (.int .u64 x) (.int .i64 b)).run Try.prog w = .ok () w' ∧ MapC w' B (n + 1) (fun y => if y = x then some b else f y) ∧ w.grownBy w' (some B) := by
  obtain ⟨D, h1, h2⟩ := h
  obtain ⟨w', hrun, r1, r2⟩ := h1.update keyedU Try.underlying59 hn (keyU hx) (plainElem_int Try.underlying3 hb)
  refine ⟨w', hrun, ⟨_, r1, fun y hy => ?_⟩, r2⟩
  by_cases hxy : y = x
  · subst hxy
    simp only [if_true]
    exact ⟨by rw [has_put_same h1.isMap (keyedU.key (keyU hy))]; rfl, atKey_put_same h1.isMap (keyedU.key (keyU hy)) _ _⟩
  · simp only [if_neg hxy]
    rw [has_put_other (by intro e; injection e with _ e; exact hxy e), atKey_put_other (by intro e; injection e with _ e; exact hxy e)]
    exact h2 y hy
end
/-- 'm[k] = b' for the walk. -/
theorem wpList_mapC {ops : Array Oper} {rest : List Oper} {o : Oper} {a : Act} {w : World} {Q : Exit → Act → World → Prop} (hg : o.guard = none) (m x v : Operand) (hop : o.op = Op.mapUpdate 59 m x v)
    (B n : Nat) (f : Int → Option Int) (k b : Int) (hm : a.eval m = .map (some B)) (hx : a.eval x = .int .u64 k) (hv : a.eval v = .int .i64 b) (hk : (Lit.int .u64 k).wf = true) (hb : (Lit.int .i64 b).wf = true) (hown : MapC w B n f) (hn : n < maxLen)
    (hK : ∀ w', MapC w' B (n + 1) (fun y => if y = k then some b else f y) → w.grownBy w' (some B) → wpList Try.prog ops Q rest (a.put o.dst undef) w') : wpList Try.prog ops Q (o :: rest) a w := by
  refine wpList_plain hg fun K' hK' => ?_
  obtain ⟨w', hrun, r1, r2⟩ := hown.store hn hk hb
  unfold Oper.wp
  simp [execOp, hop, hm, hx, hv, hrun, Result.andThen]
  exact hK' _ _ (hK w' r1 r2)
end Go.Proofs.Ytfalnaagfndgfaa
