/-
  Pure: the reference's Right is the program's valid; what it writes is what the program writes (made by mkWrdF.py).
-/
import Derived.Test.YtfedofoadfipcaaDoorWordY
import Derived.Test.YtfedofoadfipcaaDoorWrdE
namespace Go.Proofs.YtfedofoadfipcaaDoor
open Go.RowKit
set_option linter.unusedVariables false
set_option linter.unusedSimpArgs false
set_option maxRecDepth 100000 in
set_option maxHeartbeats 3200000 in
/-- What a kind does not have is not there just if the bits say so. -/
theorem own_iff : ∀ own ∈ [223, 97, 769, 5, 1, 4, 0, 4096, 205, 5120, 6144], ∀ a b c d e f g h i j k l m : Bool, decide (bits .andNot .u16 (orW a (orW b (orW c (orW d (orW e (orW f (orW g (orW h (orW i (orW j (orW k (orW l (orW m 0 1) 2) 4) 8) 16) 32) 64) 128) 256) 512) 1024) 2048) 4096) own = 0) =
    ((hasB own 12 || !a) && (hasB own 11 || !b) && (hasB own 10 || !c) && (hasB own 9 || !d) && (hasB own 8 || !e) && (hasB own 7 || !f) && (hasB own 6 || !g) && (hasB own 5 || !h) && (hasB own 4 || !i) && (hasB own 3 || !j) && (hasB own 2 || !k) && (hasB own 1 || !l) && (hasB own 0 || !m)) := by decide +kernel
theorem set_iff (m : MV) (h : knW m.kind = true) : decide (bits .andNot .u16 (setW m) (foW m.kind) = 0) =
    ((hasB (foW m.kind) 12 || !(m.n != 0)) && (hasB (foW m.kind) 11 || !(m.ver != 0)) && (hasB (foW m.kind) 10 || !decide (0 < m.vers.length)) && (hasB (foW m.kind) 9 || !decide (0 < m.reason.length)) && (hasB (foW m.kind) 8 || !(m.code != 0)) && (hasB (foW m.kind) 7 || !decide (¬ (m.eg = 0 ∧ m.eo = 0))) && (hasB (foW m.kind) 6 || !decide (¬ (m.sg = 0 ∧ m.so = 0))) && (hasB (foW m.kind) 5 || !m.some_) && (hasB (foW m.kind) 4 || !(m.ord != 0)) && (hasB (foW m.kind) 3 || !(m.prio != 0)) && (hasB (foW m.kind) 2 || !decide (0 < m.name.length)) && (hasB (foW m.kind) 1 || !(m.alias_ != 0)) && (hasB (foW m.kind) 0 || !(m.id != 0))) :=
  own_iff (foW m.kind) (own_in h).1 _ _ _ _ _ _ _ _ _ _ _ _ _
theorem encW_nums (m : MV) : encW m = (numsM m).all (fun x => decide (x ≤ 4611686018427387903)) := by
  rw [Bool.eq_iff_iff]
  unfold encW numsM
  simp only [decide_eq_true_eq, List.all_eq_true, List.mem_append, List.mem_cons, List.not_mem_nil, or_false]
  constructor
  · intro h x hx
    apply h
    rcases hx with (h | h | h | h | h | h | h | h | h) | h <;> simp [h]
  · intro h x hx
    apply h
    rcases hx with (h | h | h | h | h | h | h | h | h) | h <;> simp [h]
theorem vencs_one (x : Int) : vencs [x] = venc x := by simp [vencs]
theorem vencs_two (x y : Int) : vencs [x, y] = venc x ++ venc y := by simp [vencs]
theorem nil_pos (l : List Int) : (!decide (0 < l.length)) = decide (l = []) := by cases l <;> simp
theorem only_3 (id al : Int) (name : List Int) (prio ord sg so eg eo : Int) (sm : Bool) (code : Int) (reason : List Int) (n ver : Int) (vers : List Int) : onlyM ⟨3, id, al, name, prio, ord, sg, so, eg, eo, sm, code, reason, n, ver, vers⟩ = ⟨3, id, al, name, prio, ord, sg, so, eg, 0, false, 0, [], 0, 0, []⟩ := rfl
theorem only_4 (id al : Int) (name : List Int) (prio ord sg so eg eo : Int) (sm : Bool) (code : Int) (reason : List Int) (n ver : Int) (vers : List Int) : onlyM ⟨4, id, al, name, prio, ord, sg, so, eg, eo, sm, code, reason, n, ver, vers⟩ = ⟨4, id, 0, [], 0, 0, sg, so, 0, 0, sm, 0, [], 0, 0, []⟩ := rfl
theorem only_5 (id al : Int) (name : List Int) (prio ord sg so eg eo : Int) (sm : Bool) (code : Int) (reason : List Int) (n ver : Int) (vers : List Int) : onlyM ⟨5, id, al, name, prio, ord, sg, so, eg, eo, sm, code, reason, n, ver, vers⟩ = ⟨5, id, 0, [], 0, 0, 0, 0, 0, 0, false, code, reason, 0, 0, []⟩ := rfl
theorem only_6 (id al : Int) (name : List Int) (prio ord sg so eg eo : Int) (sm : Bool) (code : Int) (reason : List Int) (n ver : Int) (vers : List Int) : onlyM ⟨6, id, al, name, prio, ord, sg, so, eg, eo, sm, code, reason, n, ver, vers⟩ = ⟨6, id, 0, name, 0, 0, 0, 0, 0, 0, false, 0, [], 0, 0, []⟩ := rfl
theorem only_7 (id al : Int) (name : List Int) (prio ord sg so eg eo : Int) (sm : Bool) (code : Int) (reason : List Int) (n ver : Int) (vers : List Int) : onlyM ⟨7, id, al, name, prio, ord, sg, so, eg, eo, sm, code, reason, n, ver, vers⟩ = ⟨7, id, 0, [], 0, 0, 0, 0, 0, 0, false, 0, [], 0, 0, []⟩ := rfl
theorem only_8 (id al : Int) (name : List Int) (prio ord sg so eg eo : Int) (sm : Bool) (code : Int) (reason : List Int) (n ver : Int) (vers : List Int) : onlyM ⟨8, id, al, name, prio, ord, sg, so, eg, eo, sm, code, reason, n, ver, vers⟩ = ⟨8, id, 0, [], 0, 0, 0, 0, 0, 0, false, code, reason, 0, 0, []⟩ := rfl
theorem only_9 (id al : Int) (name : List Int) (prio ord sg so eg eo : Int) (sm : Bool) (code : Int) (reason : List Int) (n ver : Int) (vers : List Int) : onlyM ⟨9, id, al, name, prio, ord, sg, so, eg, eo, sm, code, reason, n, ver, vers⟩ = ⟨9, 0, 0, name, 0, 0, 0, 0, 0, 0, false, 0, [], 0, 0, []⟩ := rfl
theorem only_10 (id al : Int) (name : List Int) (prio ord sg so eg eo : Int) (sm : Bool) (code : Int) (reason : List Int) (n ver : Int) (vers : List Int) : onlyM ⟨10, id, al, name, prio, ord, sg, so, eg, eo, sm, code, reason, n, ver, vers⟩ = ⟨10, id, 0, [], 0, 0, 0, 0, 0, 0, false, 0, [], 0, 0, []⟩ := rfl
theorem only_11 (id al : Int) (name : List Int) (prio ord sg so eg eo : Int) (sm : Bool) (code : Int) (reason : List Int) (n ver : Int) (vers : List Int) : onlyM ⟨11, id, al, name, prio, ord, sg, so, eg, eo, sm, code, reason, n, ver, vers⟩ = ⟨11, id, 0, [], 0, 0, 0, 0, 0, 0, false, code, reason, 0, 0, []⟩ := rfl
theorem only_16 (id al : Int) (name : List Int) (prio ord sg so eg eo : Int) (sm : Bool) (code : Int) (reason : List Int) (n ver : Int) (vers : List Int) : onlyM ⟨16, id, al, name, prio, ord, sg, so, eg, eo, sm, code, reason, n, ver, vers⟩ = ⟨16, 0, 0, [], 0, 0, 0, 0, 0, 0, false, 0, [], 0, 0, []⟩ := rfl
theorem only_21 (id al : Int) (name : List Int) (prio ord sg so eg eo : Int) (sm : Bool) (code : Int) (reason : List Int) (n ver : Int) (vers : List Int) : onlyM ⟨21, id, al, name, prio, ord, sg, so, eg, eo, sm, code, reason, n, ver, vers⟩ = ⟨21, 0, 0, [], 0, 0, 0, 0, 0, 0, false, 0, [], n, 0, []⟩ := rfl
theorem only_22 (id al : Int) (name : List Int) (prio ord sg so eg eo : Int) (sm : Bool) (code : Int) (reason : List Int) (n ver : Int) (vers : List Int) : onlyM ⟨22, id, al, name, prio, ord, sg, so, eg, eo, sm, code, reason, n, ver, vers⟩ = ⟨22, id, 0, name, prio, 0, sg, so, eg, eo, false, 0, [], 0, 0, []⟩ := rfl
theorem only_23 (id al : Int) (name : List Int) (prio ord sg so eg eo : Int) (sm : Bool) (code : Int) (reason : List Int) (n ver : Int) (vers : List Int) : onlyM ⟨23, id, al, name, prio, ord, sg, so, eg, eo, sm, code, reason, n, ver, vers⟩ = ⟨23, id, 0, [], 0, 0, 0, 0, 0, 0, false, 0, [], 0, 0, []⟩ := rfl
theorem only_24 (id al : Int) (name : List Int) (prio ord sg so eg eo : Int) (sm : Bool) (code : Int) (reason : List Int) (n ver : Int) (vers : List Int) : onlyM ⟨24, id, al, name, prio, ord, sg, so, eg, eo, sm, code, reason, n, ver, vers⟩ = ⟨24, id, 0, [], 0, 0, 0, 0, 0, 0, false, 0, [], 0, 0, []⟩ := rfl
theorem only_25 (id al : Int) (name : List Int) (prio ord sg so eg eo : Int) (sm : Bool) (code : Int) (reason : List Int) (n ver : Int) (vers : List Int) : onlyM ⟨25, id, al, name, prio, ord, sg, so, eg, eo, sm, code, reason, n, ver, vers⟩ = ⟨25, id, 0, [], 0, 0, 0, 0, 0, 0, false, code, reason, 0, 0, []⟩ := rfl
theorem only_32 (id al : Int) (name : List Int) (prio ord sg so eg eo : Int) (sm : Bool) (code : Int) (reason : List Int) (n ver : Int) (vers : List Int) : onlyM ⟨32, id, al, name, prio, ord, sg, so, eg, eo, sm, code, reason, n, ver, vers⟩ = ⟨32, 0, 0, [], 0, 0, 0, 0, 0, 0, false, 0, [], n, 0, vers⟩ := rfl
theorem only_33 (id al : Int) (name : List Int) (prio ord sg so eg eo : Int) (sm : Bool) (code : Int) (reason : List Int) (n ver : Int) (vers : List Int) : onlyM ⟨33, id, al, name, prio, ord, sg, so, eg, eo, sm, code, reason, n, ver, vers⟩ = ⟨33, 0, 0, [], 0, 0, 0, 0, 0, 0, false, 0, [], n, ver, []⟩ := rfl
end Go.Proofs.YtfedofoadfipcaaDoor
