/-
  The map of the patches.
-/
import Derived.Test.YtdafeokjedmnkaaDoorQuiltC
import Derived.Maps.OwnSet
import Derived.Maps.OwnOps
namespace Go.Proofs.YtdafeokjedmnkaaDoor
open Go.RowKit Go.Maps
set_option linter.unusedVariables false
set_option linter.unusedSimpArgs false
/-- How a pointer to a patch reads: by its block. -/
def RPt : Value → Option (DataW Unit × List MemPlace)
  | .pointer none => some (.lit (.bool false), [])
  | .pointer (some ⟨b, 0, none⟩) => some (.lit (.int .i64 (b : Int)), [])
  | _ => none
def encP : Option Nat → DataW Unit
  | none => .lit (.bool false)
  | some g => .lit (.int .i64 (g : Int))
def ptrP : Option Nat → Value
  | none => .pointer none
  | some g => .pointer (some ⟨g, 0, none⟩)
theorem RPt_ptr (o : Option Nat) : RPt (ptrP o) = some (encP o, []) := by cases o <;> rfl
theorem RPt_inv {v : Value} {o : Option Nat} {ps : List MemPlace} (h : RPt v = some (encP o, ps)) : v = ptrP o := by
  unfold RPt at h
  split at h
  · cases o with
    | none => rfl
    | some g => simp [encP] at h
  · rename_i b
    cases o with
    | none => simp [encP] at h
    | some g =>
      simp [encP] at h
      obtain rfl : b = g := by omega
      rfl
  · cases h
theorem keyedU : Keyed Tryd.prog 28 := int_keyed Tryd.underlying28
theorem keyU {x : Int} (hx : (Lit.int .u64 x).wf = true) : keyOf Tryd.prog 28 (.int .u64 x) = some (.int .u64 x) := keyOf_int_mk Tryd.underlying28 hx
theorem zeroPt (w : World) : (zeroValue 68).run Tryd.prog w = .ok (.pointer none) w := by kernel_rfl
/-- Block B is a map of at most n entries: number x stands for block 'pt x'. -/
def MapU (w : World) (B n : Nat) (pt : Int → Option Nat) : Prop :=
  ∃ D : DataW Unit, w.ownsMap Tryd.prog 28 RPt B n D ∧ ∀ x : Int, (Lit.int .u64 x).wf = true → D.atKey (.int .u64 x) (.lit (.bool false)) = encP (pt x)
theorem MapU.made (w : World) : MapU (w.alloc (.map #[] 0)) w.heap.size 0 (fun _ => none) :=
  ⟨.map [], World.ownsMap_made _ _ _ _, fun x hx => rfl⟩
section
variable {w w' : World} {B n : Nat} {pt : Int → Option Nat}
theorem MapU.kept {row : Option Nat} (h : MapU w B n pt) (hg : w.grownBy w' row) (hne : some B ≠ row) : MapU w' B n pt := by
  obtain ⟨D, h1, h2⟩ := h
  exact ⟨D, h1.kept hg hne, h2⟩
theorem MapU.drewN (h : MapU w B n pt) (k : Nat) : MapU (w.drewN k) B n pt := by
  obtain ⟨D, h1, h2⟩ := h
  exact ⟨D, h1, h2⟩
theorem MapU.mono (h : MapU w B n pt) {m : Nat} (hm : n ≤ m) : MapU w B m pt := by
  obtain ⟨D, h1, h2⟩ := h
  exact ⟨D, h1.mono hm, h2⟩
theorem MapU.lt (h : MapU w B n pt) : B < w.heap.size := by
  obtain ⟨D, h1, h2⟩ := h
  exact h1.lt
theorem MapU.look (h : MapU w B n pt) {x : Int} (hx : (Lit.int .u64 x).wf = true) : (Instr.lookup 61 (.map (some B)) (.int .u64 x) false).run Tryd.prog w = .ok (ptrP (pt x)) w := by
  obtain ⟨D, h1, h2⟩ := h
  obtain ⟨v, ps, hrun, hv⟩ := h1.lookup keyedU Tryd.underlying61 (zeroPt w) (RPt_ptr none) (keyU hx)
  rw [show encP none = .lit (.bool false) from rfl, h2 x hx] at hv
  rw [hrun, RPt_inv hv]
theorem MapU.store (h : MapU w B n pt) (hn : n < maxLen) {x : Int} (hx : (Lit.int .u64 x).wf = true) (g : Nat) :
    ∃ w', (Instr.mapUpdate 61 (.map (some B)) (.int .u64 x) (.pointer (some ⟨g, 0, none⟩))).run Tryd.prog w = .ok () w' ∧ MapU w' B (n + 1) (fun y => if y = x then some g else pt y) ∧ w.grownBy w' (some B) := by
  obtain ⟨D, h1, h2⟩ := h
  obtain ⟨w', hrun, r1, r2⟩ := h1.update keyedU Tryd.underlying61 hn (keyU hx) (RPt_ptr (some g))
  refine ⟨w', hrun, ⟨_, r1, fun y hy => ?_⟩, r2⟩
  show _ = encP (if y = x then some g else pt y)
  by_cases hxy : y = x
  · subst hxy
    rw [if_pos rfl]
    exact atKey_put_same h1.isMap (keyedU.key (keyU hy)) _ _
  · rw [if_neg hxy, atKey_put_other (by intro e; injection e with _ e; exact hxy e)]
    exact h2 y hy
theorem MapU.drop (h : MapU w B n pt) {x : Int} (hx : (Lit.int .u64 x).wf = true) (ty : TypeId) :
    ∃ w', (Builtin.delete_ #[61, 28] ty #[.map (some B), .int .u64 x]).run Tryd.prog w = .ok (.tuple #[]) w' ∧ MapU w' B n (fun y => if y = x then none else pt y) ∧ w.grownBy w' (some B) := by
  obtain ⟨D, h1, h2⟩ := h
  obtain ⟨w', hrun, r1, r2⟩ := h1.drop keyedU Tryd.underlying61 (keyU hx) ty
  refine ⟨w', hrun, ⟨_, r1, fun y hy => ?_⟩, r2.grown⟩
  show _ = encP (if y = x then none else pt y)
  by_cases hxy : y = x
  · subst hxy
    rw [if_pos rfl]
    exact atKey_del_same _
  · rw [if_neg hxy, atKey_del_other (by intro e; injection e with _ e; exact hxy e)]
    exact h2 y hy
end
theorem look_nilU (w : World) {x : Int} (hx : (Lit.int .u64 x).wf = true) : (Instr.lookup 61 (.map none) (.int .u64 x) false).run Tryd.prog w = .ok (.pointer none) w := by
  have := Maps.look_nil (w := w) false keyedU Tryd.underlying61 (zeroPt w) (keyU hx)
  simpa using this
/-- 'm[k] = p' for the walk. -/
theorem wpList_mapU {ops : Array Oper} {rest : List Oper} {o : Oper} {a : Act} {w : World} {Q : Exit → Act → World → Prop} (hg : o.guard = none) (m x v : Operand) (hop : o.op = Op.mapUpdate 61 m x v)
    (B n : Nat) (pt : Int → Option Nat) (k : Int) (g : Nat) (hm : a.eval m = .map (some B)) (hx : a.eval x = .int .u64 k) (hv : a.eval v = .pointer (some ⟨g, 0, none⟩)) (hk : (Lit.int .u64 k).wf = true) (hown : MapU w B n pt) (hn : n < maxLen)
    (hK : ∀ w', MapU w' B (n + 1) (fun y => if y = k then some g else pt y) → w.grownBy w' (some B) → wpList Tryd.prog ops Q rest (a.put o.dst undef) w') : wpList Tryd.prog ops Q (o :: rest) a w := by
  refine wpList_plain hg fun K' hK' => ?_
  obtain ⟨w', hrun, r1, r2⟩ := hown.store hn hk g
  unfold Oper.wp
  simp [execOp, hop, hm, hx, hv, hrun, Result.andThen]
  exact hK' _ _ (hK w' r1 r2)
/-- 'delete(m, k)' for the walk. -/
theorem wpList_delU {ops : Array Oper} {rest : List Oper} {o : Oper} {a : Act} {w : World} {Q : Exit → Act → World → Prop} (hg : o.guard = none) (m x : Operand) (hop : o.op = Op.call { callee := Callee.builtin Builtin.delete, args := #[m, x], argTypes := #[61, 28] })
    (B n : Nat) (pt : Int → Option Nat) (k : Int) (hm : a.eval m = .map (some B)) (hx : a.eval x = .int .u64 k) (hk : (Lit.int .u64 k).wf = true) (hown : MapU w B n pt)
    (hK : ∀ w', MapU w' B n (fun y => if y = k then none else pt y) → w.grownBy w' (some B) → wpList Tryd.prog ops Q rest (a.put o.dst (.tuple #[])) w') : wpList Tryd.prog ops Q (o :: rest) a w := by
  refine wpList_plain hg fun K' hK' => ?_
  obtain ⟨w', hrun, r1, r2⟩ := hown.drop hk o.type
  unfold Oper.wp
  simp [execOp, hop, resolve, invoke, builtin, hm, hx, hrun, Result.andThen]
  exact hK' _ _ (hK w' r1 r2)
end Go.Proofs.YtdafeokjedmnkaaDoor
