/-
  Pure: the reference's Right is the program's valid, and what both write is the same (made by mkWrdG.py).
-/
import Derived.Test.YtfedofoadfipcaaDoorWrdF
namespace Go.Proofs.YtfedofoadfipcaaDoor
open Go.RowKit
set_option linter.unusedVariables false
set_option linter.unusedSimpArgs false
theorem rv_3 (id al : Int) (name : List Int) (prio ord sg so eg eo : Int) (sm : Bool) (code : Int) (reason : List Int) (n ver : Int) (vers : List Int) : rightM ⟨3, id, al, name, prio, ord, sg, so, eg, eo, sm, code, reason, n, ver, vers⟩ = validB ⟨3, id, al, name, prio, ord, sg, so, eg, eo, sm, code, reason, n, ver, vers⟩ := by
  have hl : lettersOk (shapeW 3) ⟨3, id, al, name, prio, ord, sg, so, eg, eo, sm, code, reason, n, ver, vers⟩ = ((true) && ((true) && ((decide (1 ≤ name.length) && decide (name.length ≤ 32)) && ((true) && ((decide (ord = 1) || decide (ord = 2)) && ((true) && ((decide (eg = 0) || decide (sg < eg)) && true))))))) := rfl
  unfold rightM validB
  rw [only_3, encW_nums, set_iff ⟨3, id, al, name, prio, ord, sg, so, eg, eo, sm, code, reason, n, ver, vers⟩ (show knW 3 = true by decide)]
  simp only [hl, show foW 3 = 223 by decide, show hasB 223 0 = true by decide, show hasB 223 1 = true by decide, show hasB 223 2 = true by decide, show hasB 223 3 = true by decide, show hasB 223 4 = true by decide, show hasB 223 5 = false by decide, show hasB 223 6 = true by decide, show hasB 223 7 = true by decide, show hasB 223 8 = false by decide, show hasB 223 9 = false by decide, show hasB 223 10 = false by decide, show hasB 223 11 = false by decide, show hasB 223 12 = false by decide, Bool.true_or, Bool.false_or, Bool.true_and, Bool.and_true]
  rw [Bool.eq_iff_iff]
  simp only [Bool.and_eq_true, sameMB_iff, MV.mk.injEq, decide_eq_true_eq, Bool.not_eq_true', Bool.or_eq_true, bne_eq_false_iff_eq, decide_eq_false_iff_not, Classical.not_not]
  unfold fitB
  simp [clB, namB]
  try grind
theorem by_3 (id al : Int) (name : List Int) (prio ord sg so eg eo : Int) (sm : Bool) (code : Int) (reason : List Int) (n ver : Int) (vers : List Int) : bytM ⟨3, id, al, name, prio, ord, sg, so, eg, eo, sm, code, reason, n, ver, vers⟩ = encR (foW 3) ⟨3, id, al, name, prio, ord, sg, so, eg, eo, sm, code, reason, n, ver, vers⟩ 13 := by
  have h1 : bytM ⟨3, id, al, name, prio, ord, sg, so, eg, eo, sm, code, reason, n, ver, vers⟩ = ((((((([] ++ vencs [id]) ++ vencs [al]) ++ vtext name) ++ [prio]) ++ [ord]) ++ vencs [sg, so]) ++ vencs [eg]) := rfl
  rw [h1, show foW 3 = 223 by decide]
  simp only [encR, show hasB 223 0 = true by decide, show hasB 223 1 = true by decide, show hasB 223 2 = true by decide, show hasB 223 3 = true by decide, show hasB 223 4 = true by decide, show hasB 223 5 = false by decide, show hasB 223 6 = true by decide, show hasB 223 7 = true by decide, show hasB 223 8 = false by decide, show hasB 223 9 = false by decide, show hasB 223 10 = false by decide, show hasB 223 11 = false by decide, show hasB 223 12 = false by decide, if_true, Bool.false_eq_true, if_false, encF, vencs_one, vencs_two, List.nil_append, List.append_nil, List.append_assoc]
  try simp
theorem rv_4 (id al : Int) (name : List Int) (prio ord sg so eg eo : Int) (sm : Bool) (code : Int) (reason : List Int) (n ver : Int) (vers : List Int) : rightM ⟨4, id, al, name, prio, ord, sg, so, eg, eo, sm, code, reason, n, ver, vers⟩ = validB ⟨4, id, al, name, prio, ord, sg, so, eg, eo, sm, code, reason, n, ver, vers⟩ := by
  have hl : lettersOk (shapeW 4) ⟨4, id, al, name, prio, ord, sg, so, eg, eo, sm, code, reason, n, ver, vers⟩ = ((true) && ((sm || (decide (sg = 0) && decide (so = 0))) && ((true) && true))) := rfl
  unfold rightM validB
  rw [only_4, encW_nums, set_iff ⟨4, id, al, name, prio, ord, sg, so, eg, eo, sm, code, reason, n, ver, vers⟩ (show knW 4 = true by decide)]
  simp only [hl, show foW 4 = 97 by decide, show hasB 97 0 = true by decide, show hasB 97 1 = false by decide, show hasB 97 2 = false by decide, show hasB 97 3 = false by decide, show hasB 97 4 = false by decide, show hasB 97 5 = true by decide, show hasB 97 6 = true by decide, show hasB 97 7 = false by decide, show hasB 97 8 = false by decide, show hasB 97 9 = false by decide, show hasB 97 10 = false by decide, show hasB 97 11 = false by decide, show hasB 97 12 = false by decide, Bool.true_or, Bool.false_or, Bool.true_and, Bool.and_true]
  rw [Bool.eq_iff_iff]
  simp only [Bool.and_eq_true, sameMB_iff, MV.mk.injEq, decide_eq_true_eq, Bool.not_eq_true', Bool.or_eq_true, bne_eq_false_iff_eq, decide_eq_false_iff_not, Classical.not_not]
  unfold fitB
  simp [clB, namB]
  try grind
theorem by_4 (id al : Int) (name : List Int) (prio ord sg so eg eo : Int) (sm : Bool) (code : Int) (reason : List Int) (n ver : Int) (vers : List Int) : bytM ⟨4, id, al, name, prio, ord, sg, so, eg, eo, sm, code, reason, n, ver, vers⟩ = encR (foW 4) ⟨4, id, al, name, prio, ord, sg, so, eg, eo, sm, code, reason, n, ver, vers⟩ 13 := by
  have h1 : bytM ⟨4, id, al, name, prio, ord, sg, so, eg, eo, sm, code, reason, n, ver, vers⟩ = ((([] ++ vencs [id]) ++ [bitI sm]) ++ vencs [sg, so]) := rfl
  rw [h1, show foW 4 = 97 by decide]
  simp only [encR, show hasB 97 0 = true by decide, show hasB 97 1 = false by decide, show hasB 97 2 = false by decide, show hasB 97 3 = false by decide, show hasB 97 4 = false by decide, show hasB 97 5 = true by decide, show hasB 97 6 = true by decide, show hasB 97 7 = false by decide, show hasB 97 8 = false by decide, show hasB 97 9 = false by decide, show hasB 97 10 = false by decide, show hasB 97 11 = false by decide, show hasB 97 12 = false by decide, if_true, Bool.false_eq_true, if_false, encF, vencs_one, vencs_two, List.nil_append, List.append_nil, List.append_assoc]
  try simp
theorem rv_5 (id al : Int) (name : List Int) (prio ord sg so eg eo : Int) (sm : Bool) (code : Int) (reason : List Int) (n ver : Int) (vers : List Int) : rightM ⟨5, id, al, name, prio, ord, sg, so, eg, eo, sm, code, reason, n, ver, vers⟩ = validB ⟨5, id, al, name, prio, ord, sg, so, eg, eo, sm, code, reason, n, ver, vers⟩ := by
  have hl : lettersOk (shapeW 5) ⟨5, id, al, name, prio, ord, sg, so, eg, eo, sm, code, reason, n, ver, vers⟩ = ((true) && ((true) && ((true) && true))) := rfl
  unfold rightM validB
  rw [only_5, encW_nums, set_iff ⟨5, id, al, name, prio, ord, sg, so, eg, eo, sm, code, reason, n, ver, vers⟩ (show knW 5 = true by decide)]
  simp only [hl, show foW 5 = 769 by decide, show hasB 769 0 = true by decide, show hasB 769 1 = false by decide, show hasB 769 2 = false by decide, show hasB 769 3 = false by decide, show hasB 769 4 = false by decide, show hasB 769 5 = false by decide, show hasB 769 6 = false by decide, show hasB 769 7 = false by decide, show hasB 769 8 = true by decide, show hasB 769 9 = true by decide, show hasB 769 10 = false by decide, show hasB 769 11 = false by decide, show hasB 769 12 = false by decide, Bool.true_or, Bool.false_or, Bool.true_and, Bool.and_true]
  rw [Bool.eq_iff_iff]
  simp only [Bool.and_eq_true, sameMB_iff, MV.mk.injEq, decide_eq_true_eq, Bool.not_eq_true', Bool.or_eq_true, bne_eq_false_iff_eq, decide_eq_false_iff_not, Classical.not_not]
  unfold fitB
  simp [clB, namB]
  try grind
theorem by_5 (id al : Int) (name : List Int) (prio ord sg so eg eo : Int) (sm : Bool) (code : Int) (reason : List Int) (n ver : Int) (vers : List Int) : bytM ⟨5, id, al, name, prio, ord, sg, so, eg, eo, sm, code, reason, n, ver, vers⟩ = encR (foW 5) ⟨5, id, al, name, prio, ord, sg, so, eg, eo, sm, code, reason, n, ver, vers⟩ 13 := by
  have h1 : bytM ⟨5, id, al, name, prio, ord, sg, so, eg, eo, sm, code, reason, n, ver, vers⟩ = ((([] ++ vencs [id]) ++ vencs [code]) ++ vtext reason) := rfl
  rw [h1, show foW 5 = 769 by decide]
  simp only [encR, show hasB 769 0 = true by decide, show hasB 769 1 = false by decide, show hasB 769 2 = false by decide, show hasB 769 3 = false by decide, show hasB 769 4 = false by decide, show hasB 769 5 = false by decide, show hasB 769 6 = false by decide, show hasB 769 7 = false by decide, show hasB 769 8 = true by decide, show hasB 769 9 = true by decide, show hasB 769 10 = false by decide, show hasB 769 11 = false by decide, show hasB 769 12 = false by decide, if_true, Bool.false_eq_true, if_false, encF, vencs_one, vencs_two, List.nil_append, List.append_nil, List.append_assoc]
  try simp
theorem rv_6 (id al : Int) (name : List Int) (prio ord sg so eg eo : Int) (sm : Bool) (code : Int) (reason : List Int) (n ver : Int) (vers : List Int) : rightM ⟨6, id, al, name, prio, ord, sg, so, eg, eo, sm, code, reason, n, ver, vers⟩ = validB ⟨6, id, al, name, prio, ord, sg, so, eg, eo, sm, code, reason, n, ver, vers⟩ := by
  have hl : lettersOk (shapeW 6) ⟨6, id, al, name, prio, ord, sg, so, eg, eo, sm, code, reason, n, ver, vers⟩ = ((true) && ((decide (1 ≤ name.length) && decide (name.length ≤ 32)) && true)) := rfl
  unfold rightM validB
  rw [only_6, encW_nums, set_iff ⟨6, id, al, name, prio, ord, sg, so, eg, eo, sm, code, reason, n, ver, vers⟩ (show knW 6 = true by decide)]
  simp only [hl, show foW 6 = 5 by decide, show hasB 5 0 = true by decide, show hasB 5 1 = false by decide, show hasB 5 2 = true by decide, show hasB 5 3 = false by decide, show hasB 5 4 = false by decide, show hasB 5 5 = false by decide, show hasB 5 6 = false by decide, show hasB 5 7 = false by decide, show hasB 5 8 = false by decide, show hasB 5 9 = false by decide, show hasB 5 10 = false by decide, show hasB 5 11 = false by decide, show hasB 5 12 = false by decide, Bool.true_or, Bool.false_or, Bool.true_and, Bool.and_true]
  rw [Bool.eq_iff_iff]
  simp only [Bool.and_eq_true, sameMB_iff, MV.mk.injEq, decide_eq_true_eq, Bool.not_eq_true', Bool.or_eq_true, bne_eq_false_iff_eq, decide_eq_false_iff_not, Classical.not_not]
  unfold fitB
  simp [clB, namB]
  try grind
theorem by_6 (id al : Int) (name : List Int) (prio ord sg so eg eo : Int) (sm : Bool) (code : Int) (reason : List Int) (n ver : Int) (vers : List Int) : bytM ⟨6, id, al, name, prio, ord, sg, so, eg, eo, sm, code, reason, n, ver, vers⟩ = encR (foW 6) ⟨6, id, al, name, prio, ord, sg, so, eg, eo, sm, code, reason, n, ver, vers⟩ 13 := by
  have h1 : bytM ⟨6, id, al, name, prio, ord, sg, so, eg, eo, sm, code, reason, n, ver, vers⟩ = (([] ++ vencs [id]) ++ vtext name) := rfl
  rw [h1, show foW 6 = 5 by decide]
  simp only [encR, show hasB 5 0 = true by decide, show hasB 5 1 = false by decide, show hasB 5 2 = true by decide, show hasB 5 3 = false by decide, show hasB 5 4 = false by decide, show hasB 5 5 = false by decide, show hasB 5 6 = false by decide, show hasB 5 7 = false by decide, show hasB 5 8 = false by decide, show hasB 5 9 = false by decide, show hasB 5 10 = false by decide, show hasB 5 11 = false by decide, show hasB 5 12 = false by decide, if_true, Bool.false_eq_true, if_false, encF, vencs_one, vencs_two, List.nil_append, List.append_nil, List.append_assoc]
  try simp
theorem rv_7 (id al : Int) (name : List Int) (prio ord sg so eg eo : Int) (sm : Bool) (code : Int) (reason : List Int) (n ver : Int) (vers : List Int) : rightM ⟨7, id, al, name, prio, ord, sg, so, eg, eo, sm, code, reason, n, ver, vers⟩ = validB ⟨7, id, al, name, prio, ord, sg, so, eg, eo, sm, code, reason, n, ver, vers⟩ := by
  have hl : lettersOk (shapeW 7) ⟨7, id, al, name, prio, ord, sg, so, eg, eo, sm, code, reason, n, ver, vers⟩ = ((true) && true) := rfl
  unfold rightM validB
  rw [only_7, encW_nums, set_iff ⟨7, id, al, name, prio, ord, sg, so, eg, eo, sm, code, reason, n, ver, vers⟩ (show knW 7 = true by decide)]
  simp only [hl, show foW 7 = 1 by decide, show hasB 1 0 = true by decide, show hasB 1 1 = false by decide, show hasB 1 2 = false by decide, show hasB 1 3 = false by decide, show hasB 1 4 = false by decide, show hasB 1 5 = false by decide, show hasB 1 6 = false by decide, show hasB 1 7 = false by decide, show hasB 1 8 = false by decide, show hasB 1 9 = false by decide, show hasB 1 10 = false by decide, show hasB 1 11 = false by decide, show hasB 1 12 = false by decide, Bool.true_or, Bool.false_or, Bool.true_and, Bool.and_true]
  rw [Bool.eq_iff_iff]
  simp only [Bool.and_eq_true, sameMB_iff, MV.mk.injEq, decide_eq_true_eq, Bool.not_eq_true', Bool.or_eq_true, bne_eq_false_iff_eq, decide_eq_false_iff_not, Classical.not_not]
  unfold fitB
  simp [clB, namB]
  try grind
theorem by_7 (id al : Int) (name : List Int) (prio ord sg so eg eo : Int) (sm : Bool) (code : Int) (reason : List Int) (n ver : Int) (vers : List Int) : bytM ⟨7, id, al, name, prio, ord, sg, so, eg, eo, sm, code, reason, n, ver, vers⟩ = encR (foW 7) ⟨7, id, al, name, prio, ord, sg, so, eg, eo, sm, code, reason, n, ver, vers⟩ 13 := by
  have h1 : bytM ⟨7, id, al, name, prio, ord, sg, so, eg, eo, sm, code, reason, n, ver, vers⟩ = ([] ++ vencs [id]) := rfl
  rw [h1, show foW 7 = 1 by decide]
  simp only [encR, show hasB 1 0 = true by decide, show hasB 1 1 = false by decide, show hasB 1 2 = false by decide, show hasB 1 3 = false by decide, show hasB 1 4 = false by decide, show hasB 1 5 = false by decide, show hasB 1 6 = false by decide, show hasB 1 7 = false by decide, show hasB 1 8 = false by decide, show hasB 1 9 = false by decide, show hasB 1 10 = false by decide, show hasB 1 11 = false by decide, show hasB 1 12 = false by decide, if_true, Bool.false_eq_true, if_false, encF, vencs_one, vencs_two, List.nil_append, List.append_nil, List.append_assoc]
  try simp
theorem rv_8 (id al : Int) (name : List Int) (prio ord sg so eg eo : Int) (sm : Bool) (code : Int) (reason : List Int) (n ver : Int) (vers : List Int) : rightM ⟨8, id, al, name, prio, ord, sg, so, eg, eo, sm, code, reason, n, ver, vers⟩ = validB ⟨8, id, al, name, prio, ord, sg, so, eg, eo, sm, code, reason, n, ver, vers⟩ := by
  have hl : lettersOk (shapeW 8) ⟨8, id, al, name, prio, ord, sg, so, eg, eo, sm, code, reason, n, ver, vers⟩ = ((true) && ((true) && ((true) && true))) := rfl
  unfold rightM validB
  rw [only_8, encW_nums, set_iff ⟨8, id, al, name, prio, ord, sg, so, eg, eo, sm, code, reason, n, ver, vers⟩ (show knW 8 = true by decide)]
  simp only [hl, show foW 8 = 769 by decide, show hasB 769 0 = true by decide, show hasB 769 1 = false by decide, show hasB 769 2 = false by decide, show hasB 769 3 = false by decide, show hasB 769 4 = false by decide, show hasB 769 5 = false by decide, show hasB 769 6 = false by decide, show hasB 769 7 = false by decide, show hasB 769 8 = true by decide, show hasB 769 9 = true by decide, show hasB 769 10 = false by decide, show hasB 769 11 = false by decide, show hasB 769 12 = false by decide, Bool.true_or, Bool.false_or, Bool.true_and, Bool.and_true]
  rw [Bool.eq_iff_iff]
  simp only [Bool.and_eq_true, sameMB_iff, MV.mk.injEq, decide_eq_true_eq, Bool.not_eq_true', Bool.or_eq_true, bne_eq_false_iff_eq, decide_eq_false_iff_not, Classical.not_not]
  unfold fitB
  simp [clB, namB]
  try grind
theorem by_8 (id al : Int) (name : List Int) (prio ord sg so eg eo : Int) (sm : Bool) (code : Int) (reason : List Int) (n ver : Int) (vers : List Int) : bytM ⟨8, id, al, name, prio, ord, sg, so, eg, eo, sm, code, reason, n, ver, vers⟩ = encR (foW 8) ⟨8, id, al, name, prio, ord, sg, so, eg, eo, sm, code, reason, n, ver, vers⟩ 13 := by
  have h1 : bytM ⟨8, id, al, name, prio, ord, sg, so, eg, eo, sm, code, reason, n, ver, vers⟩ = ((([] ++ vencs [id]) ++ vencs [code]) ++ vtext reason) := rfl
  rw [h1, show foW 8 = 769 by decide]
  simp only [encR, show hasB 769 0 = true by decide, show hasB 769 1 = false by decide, show hasB 769 2 = false by decide, show hasB 769 3 = false by decide, show hasB 769 4 = false by decide, show hasB 769 5 = false by decide, show hasB 769 6 = false by decide, show hasB 769 7 = false by decide, show hasB 769 8 = true by decide, show hasB 769 9 = true by decide, show hasB 769 10 = false by decide, show hasB 769 11 = false by decide, show hasB 769 12 = false by decide, if_true, Bool.false_eq_true, if_false, encF, vencs_one, vencs_two, List.nil_append, List.append_nil, List.append_assoc]
  try simp
theorem rv_9 (id al : Int) (name : List Int) (prio ord sg so eg eo : Int) (sm : Bool) (code : Int) (reason : List Int) (n ver : Int) (vers : List Int) : rightM ⟨9, id, al, name, prio, ord, sg, so, eg, eo, sm, code, reason, n, ver, vers⟩ = validB ⟨9, id, al, name, prio, ord, sg, so, eg, eo, sm, code, reason, n, ver, vers⟩ := by
  have hl : lettersOk (shapeW 9) ⟨9, id, al, name, prio, ord, sg, so, eg, eo, sm, code, reason, n, ver, vers⟩ = ((decide (1 ≤ name.length) && decide (name.length ≤ 32)) && true) := rfl
  unfold rightM validB
  rw [only_9, encW_nums, set_iff ⟨9, id, al, name, prio, ord, sg, so, eg, eo, sm, code, reason, n, ver, vers⟩ (show knW 9 = true by decide)]
  simp only [hl, show foW 9 = 4 by decide, show hasB 4 0 = false by decide, show hasB 4 1 = false by decide, show hasB 4 2 = true by decide, show hasB 4 3 = false by decide, show hasB 4 4 = false by decide, show hasB 4 5 = false by decide, show hasB 4 6 = false by decide, show hasB 4 7 = false by decide, show hasB 4 8 = false by decide, show hasB 4 9 = false by decide, show hasB 4 10 = false by decide, show hasB 4 11 = false by decide, show hasB 4 12 = false by decide, Bool.true_or, Bool.false_or, Bool.true_and, Bool.and_true]
  rw [Bool.eq_iff_iff]
  simp only [Bool.and_eq_true, sameMB_iff, MV.mk.injEq, decide_eq_true_eq, Bool.not_eq_true', Bool.or_eq_true, bne_eq_false_iff_eq, decide_eq_false_iff_not, Classical.not_not]
  unfold fitB
  simp [clB, namB]
  try grind
theorem by_9 (id al : Int) (name : List Int) (prio ord sg so eg eo : Int) (sm : Bool) (code : Int) (reason : List Int) (n ver : Int) (vers : List Int) : bytM ⟨9, id, al, name, prio, ord, sg, so, eg, eo, sm, code, reason, n, ver, vers⟩ = encR (foW 9) ⟨9, id, al, name, prio, ord, sg, so, eg, eo, sm, code, reason, n, ver, vers⟩ 13 := by
  have h1 : bytM ⟨9, id, al, name, prio, ord, sg, so, eg, eo, sm, code, reason, n, ver, vers⟩ = ([] ++ vtext name) := rfl
  rw [h1, show foW 9 = 4 by decide]
  simp only [encR, show hasB 4 0 = false by decide, show hasB 4 1 = false by decide, show hasB 4 2 = true by decide, show hasB 4 3 = false by decide, show hasB 4 4 = false by decide, show hasB 4 5 = false by decide, show hasB 4 6 = false by decide, show hasB 4 7 = false by decide, show hasB 4 8 = false by decide, show hasB 4 9 = false by decide, show hasB 4 10 = false by decide, show hasB 4 11 = false by decide, show hasB 4 12 = false by decide, if_true, Bool.false_eq_true, if_false, encF, vencs_one, vencs_two, List.nil_append, List.append_nil, List.append_assoc]
  try simp
theorem rv_10 (id al : Int) (name : List Int) (prio ord sg so eg eo : Int) (sm : Bool) (code : Int) (reason : List Int) (n ver : Int) (vers : List Int) : rightM ⟨10, id, al, name, prio, ord, sg, so, eg, eo, sm, code, reason, n, ver, vers⟩ = validB ⟨10, id, al, name, prio, ord, sg, so, eg, eo, sm, code, reason, n, ver, vers⟩ := by
  have hl : lettersOk (shapeW 10) ⟨10, id, al, name, prio, ord, sg, so, eg, eo, sm, code, reason, n, ver, vers⟩ = ((true) && true) := rfl
  unfold rightM validB
  rw [only_10, encW_nums, set_iff ⟨10, id, al, name, prio, ord, sg, so, eg, eo, sm, code, reason, n, ver, vers⟩ (show knW 10 = true by decide)]
  simp only [hl, show foW 10 = 1 by decide, show hasB 1 0 = true by decide, show hasB 1 1 = false by decide, show hasB 1 2 = false by decide, show hasB 1 3 = false by decide, show hasB 1 4 = false by decide, show hasB 1 5 = false by decide, show hasB 1 6 = false by decide, show hasB 1 7 = false by decide, show hasB 1 8 = false by decide, show hasB 1 9 = false by decide, show hasB 1 10 = false by decide, show hasB 1 11 = false by decide, show hasB 1 12 = false by decide, Bool.true_or, Bool.false_or, Bool.true_and, Bool.and_true]
  rw [Bool.eq_iff_iff]
  simp only [Bool.and_eq_true, sameMB_iff, MV.mk.injEq, decide_eq_true_eq, Bool.not_eq_true', Bool.or_eq_true, bne_eq_false_iff_eq, decide_eq_false_iff_not, Classical.not_not]
  unfold fitB
  simp [clB, namB]
  try grind
theorem by_10 (id al : Int) (name : List Int) (prio ord sg so eg eo : Int) (sm : Bool) (code : Int) (reason : List Int) (n ver : Int) (vers : List Int) : bytM ⟨10, id, al, name, prio, ord, sg, so, eg, eo, sm, code, reason, n, ver, vers⟩ = encR (foW 10) ⟨10, id, al, name, prio, ord, sg, so, eg, eo, sm, code, reason, n, ver, vers⟩ 13 := by
  have h1 : bytM ⟨10, id, al, name, prio, ord, sg, so, eg, eo, sm, code, reason, n, ver, vers⟩ = ([] ++ vencs [id]) := rfl
  rw [h1, show foW 10 = 1 by decide]
  simp only [encR, show hasB 1 0 = true by decide, show hasB 1 1 = false by decide, show hasB 1 2 = false by decide, show hasB 1 3 = false by decide, show hasB 1 4 = false by decide, show hasB 1 5 = false by decide, show hasB 1 6 = false by decide, show hasB 1 7 = false by decide, show hasB 1 8 = false by decide, show hasB 1 9 = false by decide, show hasB 1 10 = false by decide, show hasB 1 11 = false by decide, show hasB 1 12 = false by decide, if_true, Bool.false_eq_true, if_false, encF, vencs_one, vencs_two, List.nil_append, List.append_nil, List.append_assoc]
  try simp
theorem rv_11 (id al : Int) (name : List Int) (prio ord sg so eg eo : Int) (sm : Bool) (code : Int) (reason : List Int) (n ver : Int) (vers : List Int) : rightM ⟨11, id, al, name, prio, ord, sg, so, eg, eo, sm, code, reason, n, ver, vers⟩ = validB ⟨11, id, al, name, prio, ord, sg, so, eg, eo, sm, code, reason, n, ver, vers⟩ := by
  have hl : lettersOk (shapeW 11) ⟨11, id, al, name, prio, ord, sg, so, eg, eo, sm, code, reason, n, ver, vers⟩ = ((true) && ((true) && ((true) && true))) := rfl
  unfold rightM validB
  rw [only_11, encW_nums, set_iff ⟨11, id, al, name, prio, ord, sg, so, eg, eo, sm, code, reason, n, ver, vers⟩ (show knW 11 = true by decide)]
  simp only [hl, show foW 11 = 769 by decide, show hasB 769 0 = true by decide, show hasB 769 1 = false by decide, show hasB 769 2 = false by decide, show hasB 769 3 = false by decide, show hasB 769 4 = false by decide, show hasB 769 5 = false by decide, show hasB 769 6 = false by decide, show hasB 769 7 = false by decide, show hasB 769 8 = true by decide, show hasB 769 9 = true by decide, show hasB 769 10 = false by decide, show hasB 769 11 = false by decide, show hasB 769 12 = false by decide, Bool.true_or, Bool.false_or, Bool.true_and, Bool.and_true]
  rw [Bool.eq_iff_iff]
  simp only [Bool.and_eq_true, sameMB_iff, MV.mk.injEq, decide_eq_true_eq, Bool.not_eq_true', Bool.or_eq_true, bne_eq_false_iff_eq, decide_eq_false_iff_not, Classical.not_not]
  unfold fitB
  simp [clB, namB]
  try grind
theorem by_11 (id al : Int) (name : List Int) (prio ord sg so eg eo : Int) (sm : Bool) (code : Int) (reason : List Int) (n ver : Int) (vers : List Int) : bytM ⟨11, id, al, name, prio, ord, sg, so, eg, eo, sm, code, reason, n, ver, vers⟩ = encR (foW 11) ⟨11, id, al, name, prio, ord, sg, so, eg, eo, sm, code, reason, n, ver, vers⟩ 13 := by
  have h1 : bytM ⟨11, id, al, name, prio, ord, sg, so, eg, eo, sm, code, reason, n, ver, vers⟩ = ((([] ++ vencs [id]) ++ vencs [code]) ++ vtext reason) := rfl
  rw [h1, show foW 11 = 769 by decide]
  simp only [encR, show hasB 769 0 = true by decide, show hasB 769 1 = false by decide, show hasB 769 2 = false by decide, show hasB 769 3 = false by decide, show hasB 769 4 = false by decide, show hasB 769 5 = false by decide, show hasB 769 6 = false by decide, show hasB 769 7 = false by decide, show hasB 769 8 = true by decide, show hasB 769 9 = true by decide, show hasB 769 10 = false by decide, show hasB 769 11 = false by decide, show hasB 769 12 = false by decide, if_true, Bool.false_eq_true, if_false, encF, vencs_one, vencs_two, List.nil_append, List.append_nil, List.append_assoc]
  try simp
theorem rv_16 (id al : Int) (name : List Int) (prio ord sg so eg eo : Int) (sm : Bool) (code : Int) (reason : List Int) (n ver : Int) (vers : List Int) : rightM ⟨16, id, al, name, prio, ord, sg, so, eg, eo, sm, code, reason, n, ver, vers⟩ = validB ⟨16, id, al, name, prio, ord, sg, so, eg, eo, sm, code, reason, n, ver, vers⟩ := by
  have hl : lettersOk (shapeW 16) ⟨16, id, al, name, prio, ord, sg, so, eg, eo, sm, code, reason, n, ver, vers⟩ = (true) := rfl
  unfold rightM validB
  rw [only_16, encW_nums, set_iff ⟨16, id, al, name, prio, ord, sg, so, eg, eo, sm, code, reason, n, ver, vers⟩ (show knW 16 = true by decide)]
  simp only [hl, show foW 16 = 0 by decide, show hasB 0 0 = false by decide, show hasB 0 1 = false by decide, show hasB 0 2 = false by decide, show hasB 0 3 = false by decide, show hasB 0 4 = false by decide, show hasB 0 5 = false by decide, show hasB 0 6 = false by decide, show hasB 0 7 = false by decide, show hasB 0 8 = false by decide, show hasB 0 9 = false by decide, show hasB 0 10 = false by decide, show hasB 0 11 = false by decide, show hasB 0 12 = false by decide, Bool.true_or, Bool.false_or, Bool.true_and, Bool.and_true]
  rw [Bool.eq_iff_iff]
  simp only [Bool.and_eq_true, sameMB_iff, MV.mk.injEq, decide_eq_true_eq, Bool.not_eq_true', Bool.or_eq_true, bne_eq_false_iff_eq, decide_eq_false_iff_not, Classical.not_not]
  unfold fitB
  simp [clB, namB]
  try grind
theorem by_16 (id al : Int) (name : List Int) (prio ord sg so eg eo : Int) (sm : Bool) (code : Int) (reason : List Int) (n ver : Int) (vers : List Int) : bytM ⟨16, id, al, name, prio, ord, sg, so, eg, eo, sm, code, reason, n, ver, vers⟩ = encR (foW 16) ⟨16, id, al, name, prio, ord, sg, so, eg, eo, sm, code, reason, n, ver, vers⟩ 13 := by
  have h1 : bytM ⟨16, id, al, name, prio, ord, sg, so, eg, eo, sm, code, reason, n, ver, vers⟩ = [] := rfl
  rw [h1, show foW 16 = 0 by decide]
  simp only [encR, show hasB 0 0 = false by decide, show hasB 0 1 = false by decide, show hasB 0 2 = false by decide, show hasB 0 3 = false by decide, show hasB 0 4 = false by decide, show hasB 0 5 = false by decide, show hasB 0 6 = false by decide, show hasB 0 7 = false by decide, show hasB 0 8 = false by decide, show hasB 0 9 = false by decide, show hasB 0 10 = false by decide, show hasB 0 11 = false by decide, show hasB 0 12 = false by decide, if_true, Bool.false_eq_true, if_false, encF, vencs_one, vencs_two, List.nil_append, List.append_nil, List.append_assoc]
  try simp
theorem rv_21 (id al : Int) (name : List Int) (prio ord sg so eg eo : Int) (sm : Bool) (code : Int) (reason : List Int) (n ver : Int) (vers : List Int) : rightM ⟨21, id, al, name, prio, ord, sg, so, eg, eo, sm, code, reason, n, ver, vers⟩ = validB ⟨21, id, al, name, prio, ord, sg, so, eg, eo, sm, code, reason, n, ver, vers⟩ := by
  have hl : lettersOk (shapeW 21) ⟨21, id, al, name, prio, ord, sg, so, eg, eo, sm, code, reason, n, ver, vers⟩ = ((true) && true) := rfl
  unfold rightM validB
  rw [only_21, encW_nums, set_iff ⟨21, id, al, name, prio, ord, sg, so, eg, eo, sm, code, reason, n, ver, vers⟩ (show knW 21 = true by decide)]
  simp only [hl, show foW 21 = 4096 by decide, show hasB 4096 0 = false by decide, show hasB 4096 1 = false by decide, show hasB 4096 2 = false by decide, show hasB 4096 3 = false by decide, show hasB 4096 4 = false by decide, show hasB 4096 5 = false by decide, show hasB 4096 6 = false by decide, show hasB 4096 7 = false by decide, show hasB 4096 8 = false by decide, show hasB 4096 9 = false by decide, show hasB 4096 10 = false by decide, show hasB 4096 11 = false by decide, show hasB 4096 12 = true by decide, Bool.true_or, Bool.false_or, Bool.true_and, Bool.and_true]
  rw [Bool.eq_iff_iff]
  simp only [Bool.and_eq_true, sameMB_iff, MV.mk.injEq, decide_eq_true_eq, Bool.not_eq_true', Bool.or_eq_true, bne_eq_false_iff_eq, decide_eq_false_iff_not, Classical.not_not]
  unfold fitB
  simp [clB, namB]
  try grind
theorem by_21 (id al : Int) (name : List Int) (prio ord sg so eg eo : Int) (sm : Bool) (code : Int) (reason : List Int) (n ver : Int) (vers : List Int) : bytM ⟨21, id, al, name, prio, ord, sg, so, eg, eo, sm, code, reason, n, ver, vers⟩ = encR (foW 21) ⟨21, id, al, name, prio, ord, sg, so, eg, eo, sm, code, reason, n, ver, vers⟩ 13 := by
  have h1 : bytM ⟨21, id, al, name, prio, ord, sg, so, eg, eo, sm, code, reason, n, ver, vers⟩ = ([] ++ vencs [n]) := rfl
  rw [h1, show foW 21 = 4096 by decide]
  simp only [encR, show hasB 4096 0 = false by decide, show hasB 4096 1 = false by decide, show hasB 4096 2 = false by decide, show hasB 4096 3 = false by decide, show hasB 4096 4 = false by decide, show hasB 4096 5 = false by decide, show hasB 4096 6 = false by decide, show hasB 4096 7 = false by decide, show hasB 4096 8 = false by decide, show hasB 4096 9 = false by decide, show hasB 4096 10 = false by decide, show hasB 4096 11 = false by decide, show hasB 4096 12 = true by decide, if_true, Bool.false_eq_true, if_false, encF, vencs_one, vencs_two, List.nil_append, List.append_nil, List.append_assoc]
  try simp
theorem rv_22 (id al : Int) (name : List Int) (prio ord sg so eg eo : Int) (sm : Bool) (code : Int) (reason : List Int) (n ver : Int) (vers : List Int) : rightM ⟨22, id, al, name, prio, ord, sg, so, eg, eo, sm, code, reason, n, ver, vers⟩ = validB ⟨22, id, al, name, prio, ord, sg, so, eg, eo, sm, code, reason, n, ver, vers⟩ := by
  have hl : lettersOk (shapeW 22) ⟨22, id, al, name, prio, ord, sg, so, eg, eo, sm, code, reason, n, ver, vers⟩ = ((true) && ((decide (1 ≤ name.length) && decide (name.length ≤ 32)) && ((true) && ((true) && ((!lessB eg eo sg so) && true))))) := rfl
  unfold rightM validB
  rw [only_22, encW_nums, set_iff ⟨22, id, al, name, prio, ord, sg, so, eg, eo, sm, code, reason, n, ver, vers⟩ (show knW 22 = true by decide)]
  simp only [hl, show foW 22 = 205 by decide, show hasB 205 0 = true by decide, show hasB 205 1 = false by decide, show hasB 205 2 = true by decide, show hasB 205 3 = true by decide, show hasB 205 4 = false by decide, show hasB 205 5 = false by decide, show hasB 205 6 = true by decide, show hasB 205 7 = true by decide, show hasB 205 8 = false by decide, show hasB 205 9 = false by decide, show hasB 205 10 = false by decide, show hasB 205 11 = false by decide, show hasB 205 12 = false by decide, Bool.true_or, Bool.false_or, Bool.true_and, Bool.and_true]
  rw [Bool.eq_iff_iff]
  simp only [Bool.and_eq_true, sameMB_iff, MV.mk.injEq, decide_eq_true_eq, Bool.not_eq_true', Bool.or_eq_true, bne_eq_false_iff_eq, decide_eq_false_iff_not, Classical.not_not]
  unfold fitB
  simp [clB, namB]
  try grind
theorem by_22 (id al : Int) (name : List Int) (prio ord sg so eg eo : Int) (sm : Bool) (code : Int) (reason : List Int) (n ver : Int) (vers : List Int) : bytM ⟨22, id, al, name, prio, ord, sg, so, eg, eo, sm, code, reason, n, ver, vers⟩ = encR (foW 22) ⟨22, id, al, name, prio, ord, sg, so, eg, eo, sm, code, reason, n, ver, vers⟩ 13 := by
  have h1 : bytM ⟨22, id, al, name, prio, ord, sg, so, eg, eo, sm, code, reason, n, ver, vers⟩ = ((((([] ++ vencs [id]) ++ vtext name) ++ [prio]) ++ vencs [sg, so]) ++ vencs [eg, eo]) := rfl
  rw [h1, show foW 22 = 205 by decide]
  simp only [encR, show hasB 205 0 = true by decide, show hasB 205 1 = false by decide, show hasB 205 2 = true by decide, show hasB 205 3 = true by decide, show hasB 205 4 = false by decide, show hasB 205 5 = false by decide, show hasB 205 6 = true by decide, show hasB 205 7 = true by decide, show hasB 205 8 = false by decide, show hasB 205 9 = false by decide, show hasB 205 10 = false by decide, show hasB 205 11 = false by decide, show hasB 205 12 = false by decide, if_true, Bool.false_eq_true, if_false, encF, vencs_one, vencs_two, List.nil_append, List.append_nil, List.append_assoc]
  try simp
theorem rv_23 (id al : Int) (name : List Int) (prio ord sg so eg eo : Int) (sm : Bool) (code : Int) (reason : List Int) (n ver : Int) (vers : List Int) : rightM ⟨23, id, al, name, prio, ord, sg, so, eg, eo, sm, code, reason, n, ver, vers⟩ = validB ⟨23, id, al, name, prio, ord, sg, so, eg, eo, sm, code, reason, n, ver, vers⟩ := by
  have hl : lettersOk (shapeW 23) ⟨23, id, al, name, prio, ord, sg, so, eg, eo, sm, code, reason, n, ver, vers⟩ = ((true) && true) := rfl
  unfold rightM validB
  rw [only_23, encW_nums, set_iff ⟨23, id, al, name, prio, ord, sg, so, eg, eo, sm, code, reason, n, ver, vers⟩ (show knW 23 = true by decide)]
  simp only [hl, show foW 23 = 1 by decide, show hasB 1 0 = true by decide, show hasB 1 1 = false by decide, show hasB 1 2 = false by decide, show hasB 1 3 = false by decide, show hasB 1 4 = false by decide, show hasB 1 5 = false by decide, show hasB 1 6 = false by decide, show hasB 1 7 = false by decide, show hasB 1 8 = false by decide, show hasB 1 9 = false by decide, show hasB 1 10 = false by decide, show hasB 1 11 = false by decide, show hasB 1 12 = false by decide, Bool.true_or, Bool.false_or, Bool.true_and, Bool.and_true]
  rw [Bool.eq_iff_iff]
  simp only [Bool.and_eq_true, sameMB_iff, MV.mk.injEq, decide_eq_true_eq, Bool.not_eq_true', Bool.or_eq_true, bne_eq_false_iff_eq, decide_eq_false_iff_not, Classical.not_not]
  unfold fitB
  simp [clB, namB]
  try grind
theorem by_23 (id al : Int) (name : List Int) (prio ord sg so eg eo : Int) (sm : Bool) (code : Int) (reason : List Int) (n ver : Int) (vers : List Int) : bytM ⟨23, id, al, name, prio, ord, sg, so, eg, eo, sm, code, reason, n, ver, vers⟩ = encR (foW 23) ⟨23, id, al, name, prio, ord, sg, so, eg, eo, sm, code, reason, n, ver, vers⟩ 13 := by
  have h1 : bytM ⟨23, id, al, name, prio, ord, sg, so, eg, eo, sm, code, reason, n, ver, vers⟩ = ([] ++ vencs [id]) := rfl
  rw [h1, show foW 23 = 1 by decide]
  simp only [encR, show hasB 1 0 = true by decide, show hasB 1 1 = false by decide, show hasB 1 2 = false by decide, show hasB 1 3 = false by decide, show hasB 1 4 = false by decide, show hasB 1 5 = false by decide, show hasB 1 6 = false by decide, show hasB 1 7 = false by decide, show hasB 1 8 = false by decide, show hasB 1 9 = false by decide, show hasB 1 10 = false by decide, show hasB 1 11 = false by decide, show hasB 1 12 = false by decide, if_true, Bool.false_eq_true, if_false, encF, vencs_one, vencs_two, List.nil_append, List.append_nil, List.append_assoc]
  try simp
theorem rv_24 (id al : Int) (name : List Int) (prio ord sg so eg eo : Int) (sm : Bool) (code : Int) (reason : List Int) (n ver : Int) (vers : List Int) : rightM ⟨24, id, al, name, prio, ord, sg, so, eg, eo, sm, code, reason, n, ver, vers⟩ = validB ⟨24, id, al, name, prio, ord, sg, so, eg, eo, sm, code, reason, n, ver, vers⟩ := by
  have hl : lettersOk (shapeW 24) ⟨24, id, al, name, prio, ord, sg, so, eg, eo, sm, code, reason, n, ver, vers⟩ = ((true) && true) := rfl
  unfold rightM validB
  rw [only_24, encW_nums, set_iff ⟨24, id, al, name, prio, ord, sg, so, eg, eo, sm, code, reason, n, ver, vers⟩ (show knW 24 = true by decide)]
  simp only [hl, show foW 24 = 1 by decide, show hasB 1 0 = true by decide, show hasB 1 1 = false by decide, show hasB 1 2 = false by decide, show hasB 1 3 = false by decide, show hasB 1 4 = false by decide, show hasB 1 5 = false by decide, show hasB 1 6 = false by decide, show hasB 1 7 = false by decide, show hasB 1 8 = false by decide, show hasB 1 9 = false by decide, show hasB 1 10 = false by decide, show hasB 1 11 = false by decide, show hasB 1 12 = false by decide, Bool.true_or, Bool.false_or, Bool.true_and, Bool.and_true]
  rw [Bool.eq_iff_iff]
  simp only [Bool.and_eq_true, sameMB_iff, MV.mk.injEq, decide_eq_true_eq, Bool.not_eq_true', Bool.or_eq_true, bne_eq_false_iff_eq, decide_eq_false_iff_not, Classical.not_not]
  unfold fitB
  simp [clB, namB]
  try grind
theorem by_24 (id al : Int) (name : List Int) (prio ord sg so eg eo : Int) (sm : Bool) (code : Int) (reason : List Int) (n ver : Int) (vers : List Int) : bytM ⟨24, id, al, name, prio, ord, sg, so, eg, eo, sm, code, reason, n, ver, vers⟩ = encR (foW 24) ⟨24, id, al, name, prio, ord, sg, so, eg, eo, sm, code, reason, n, ver, vers⟩ 13 := by
  have h1 : bytM ⟨24, id, al, name, prio, ord, sg, so, eg, eo, sm, code, reason, n, ver, vers⟩ = ([] ++ vencs [id]) := rfl
  rw [h1, show foW 24 = 1 by decide]
  simp only [encR, show hasB 1 0 = true by decide, show hasB 1 1 = false by decide, show hasB 1 2 = false by decide, show hasB 1 3 = false by decide, show hasB 1 4 = false by decide, show hasB 1 5 = false by decide, show hasB 1 6 = false by decide, show hasB 1 7 = false by decide, show hasB 1 8 = false by decide, show hasB 1 9 = false by decide, show hasB 1 10 = false by decide, show hasB 1 11 = false by decide, show hasB 1 12 = false by decide, if_true, Bool.false_eq_true, if_false, encF, vencs_one, vencs_two, List.nil_append, List.append_nil, List.append_assoc]
  try simp
theorem rv_25 (id al : Int) (name : List Int) (prio ord sg so eg eo : Int) (sm : Bool) (code : Int) (reason : List Int) (n ver : Int) (vers : List Int) : rightM ⟨25, id, al, name, prio, ord, sg, so, eg, eo, sm, code, reason, n, ver, vers⟩ = validB ⟨25, id, al, name, prio, ord, sg, so, eg, eo, sm, code, reason, n, ver, vers⟩ := by
  have hl : lettersOk (shapeW 25) ⟨25, id, al, name, prio, ord, sg, so, eg, eo, sm, code, reason, n, ver, vers⟩ = ((true) && ((true) && ((true) && true))) := rfl
  unfold rightM validB
  rw [only_25, encW_nums, set_iff ⟨25, id, al, name, prio, ord, sg, so, eg, eo, sm, code, reason, n, ver, vers⟩ (show knW 25 = true by decide)]
  simp only [hl, show foW 25 = 769 by decide, show hasB 769 0 = true by decide, show hasB 769 1 = false by decide, show hasB 769 2 = false by decide, show hasB 769 3 = false by decide, show hasB 769 4 = false by decide, show hasB 769 5 = false by decide, show hasB 769 6 = false by decide, show hasB 769 7 = false by decide, show hasB 769 8 = true by decide, show hasB 769 9 = true by decide, show hasB 769 10 = false by decide, show hasB 769 11 = false by decide, show hasB 769 12 = false by decide, Bool.true_or, Bool.false_or, Bool.true_and, Bool.and_true]
  rw [Bool.eq_iff_iff]
  simp only [Bool.and_eq_true, sameMB_iff, MV.mk.injEq, decide_eq_true_eq, Bool.not_eq_true', Bool.or_eq_true, bne_eq_false_iff_eq, decide_eq_false_iff_not, Classical.not_not]
  unfold fitB
  simp [clB, namB]
  try grind
theorem by_25 (id al : Int) (name : List Int) (prio ord sg so eg eo : Int) (sm : Bool) (code : Int) (reason : List Int) (n ver : Int) (vers : List Int) : bytM ⟨25, id, al, name, prio, ord, sg, so, eg, eo, sm, code, reason, n, ver, vers⟩ = encR (foW 25) ⟨25, id, al, name, prio, ord, sg, so, eg, eo, sm, code, reason, n, ver, vers⟩ 13 := by
  have h1 : bytM ⟨25, id, al, name, prio, ord, sg, so, eg, eo, sm, code, reason, n, ver, vers⟩ = ((([] ++ vencs [id]) ++ vencs [code]) ++ vtext reason) := rfl
  rw [h1, show foW 25 = 769 by decide]
  simp only [encR, show hasB 769 0 = true by decide, show hasB 769 1 = false by decide, show hasB 769 2 = false by decide, show hasB 769 3 = false by decide, show hasB 769 4 = false by decide, show hasB 769 5 = false by decide, show hasB 769 6 = false by decide, show hasB 769 7 = false by decide, show hasB 769 8 = true by decide, show hasB 769 9 = true by decide, show hasB 769 10 = false by decide, show hasB 769 11 = false by decide, show hasB 769 12 = false by decide, if_true, Bool.false_eq_true, if_false, encF, vencs_one, vencs_two, List.nil_append, List.append_nil, List.append_assoc]
  try simp
theorem rv_32 (id al : Int) (name : List Int) (prio ord sg so eg eo : Int) (sm : Bool) (code : Int) (reason : List Int) (n ver : Int) (vers : List Int) : rightM ⟨32, id, al, name, prio, ord, sg, so, eg, eo, sm, code, reason, n, ver, vers⟩ = validB ⟨32, id, al, name, prio, ord, sg, so, eg, eo, sm, code, reason, n, ver, vers⟩ := by
  have hl : lettersOk (shapeW 32) ⟨32, id, al, name, prio, ord, sg, so, eg, eo, sm, code, reason, n, ver, vers⟩ = ((decide (1 ≤ vers.length) && decide (vers.length ≤ 8)) && ((true) && true)) := rfl
  unfold rightM validB
  rw [only_32, encW_nums, set_iff ⟨32, id, al, name, prio, ord, sg, so, eg, eo, sm, code, reason, n, ver, vers⟩ (show knW 32 = true by decide)]
  simp only [hl, show foW 32 = 5120 by decide, show hasB 5120 0 = false by decide, show hasB 5120 1 = false by decide, show hasB 5120 2 = false by decide, show hasB 5120 3 = false by decide, show hasB 5120 4 = false by decide, show hasB 5120 5 = false by decide, show hasB 5120 6 = false by decide, show hasB 5120 7 = false by decide, show hasB 5120 8 = false by decide, show hasB 5120 9 = false by decide, show hasB 5120 10 = true by decide, show hasB 5120 11 = false by decide, show hasB 5120 12 = true by decide, Bool.true_or, Bool.false_or, Bool.true_and, Bool.and_true]
  rw [Bool.eq_iff_iff]
  simp only [Bool.and_eq_true, sameMB_iff, MV.mk.injEq, decide_eq_true_eq, Bool.not_eq_true', Bool.or_eq_true, bne_eq_false_iff_eq, decide_eq_false_iff_not, Classical.not_not]
  unfold fitB
  simp [clB, namB]
  try grind
theorem by_32 (id al : Int) (name : List Int) (prio ord sg so eg eo : Int) (sm : Bool) (code : Int) (reason : List Int) (n ver : Int) (vers : List Int) : bytM ⟨32, id, al, name, prio, ord, sg, so, eg, eo, sm, code, reason, n, ver, vers⟩ = encR (foW 32) ⟨32, id, al, name, prio, ord, sg, so, eg, eo, sm, code, reason, n, ver, vers⟩ 13 := by
  have h1 : bytM ⟨32, id, al, name, prio, ord, sg, so, eg, eo, sm, code, reason, n, ver, vers⟩ = (([] ++ (vencs [(vers.length : Int)] ++ vencs vers)) ++ vencs [n]) := rfl
  rw [h1, show foW 32 = 5120 by decide]
  simp only [encR, show hasB 5120 0 = false by decide, show hasB 5120 1 = false by decide, show hasB 5120 2 = false by decide, show hasB 5120 3 = false by decide, show hasB 5120 4 = false by decide, show hasB 5120 5 = false by decide, show hasB 5120 6 = false by decide, show hasB 5120 7 = false by decide, show hasB 5120 8 = false by decide, show hasB 5120 9 = false by decide, show hasB 5120 10 = true by decide, show hasB 5120 11 = false by decide, show hasB 5120 12 = true by decide, if_true, Bool.false_eq_true, if_false, encF, vencs_one, vencs_two, List.nil_append, List.append_nil, List.append_assoc]
  try simp
theorem rv_33 (id al : Int) (name : List Int) (prio ord sg so eg eo : Int) (sm : Bool) (code : Int) (reason : List Int) (n ver : Int) (vers : List Int) : rightM ⟨33, id, al, name, prio, ord, sg, so, eg, eo, sm, code, reason, n, ver, vers⟩ = validB ⟨33, id, al, name, prio, ord, sg, so, eg, eo, sm, code, reason, n, ver, vers⟩ := by
  have hl : lettersOk (shapeW 33) ⟨33, id, al, name, prio, ord, sg, so, eg, eo, sm, code, reason, n, ver, vers⟩ = ((true) && ((true) && true)) := rfl
  unfold rightM validB
  rw [only_33, encW_nums, set_iff ⟨33, id, al, name, prio, ord, sg, so, eg, eo, sm, code, reason, n, ver, vers⟩ (show knW 33 = true by decide)]
  simp only [hl, show foW 33 = 6144 by decide, show hasB 6144 0 = false by decide, show hasB 6144 1 = false by decide, show hasB 6144 2 = false by decide, show hasB 6144 3 = false by decide, show hasB 6144 4 = false by decide, show hasB 6144 5 = false by decide, show hasB 6144 6 = false by decide, show hasB 6144 7 = false by decide, show hasB 6144 8 = false by decide, show hasB 6144 9 = false by decide, show hasB 6144 10 = false by decide, show hasB 6144 11 = true by decide, show hasB 6144 12 = true by decide, Bool.true_or, Bool.false_or, Bool.true_and, Bool.and_true]
  rw [Bool.eq_iff_iff]
  simp only [Bool.and_eq_true, sameMB_iff, MV.mk.injEq, decide_eq_true_eq, Bool.not_eq_true', Bool.or_eq_true, bne_eq_false_iff_eq, decide_eq_false_iff_not, Classical.not_not]
  unfold fitB
  simp [clB, namB]
  try grind
theorem by_33 (id al : Int) (name : List Int) (prio ord sg so eg eo : Int) (sm : Bool) (code : Int) (reason : List Int) (n ver : Int) (vers : List Int) : bytM ⟨33, id, al, name, prio, ord, sg, so, eg, eo, sm, code, reason, n, ver, vers⟩ = encR (foW 33) ⟨33, id, al, name, prio, ord, sg, so, eg, eo, sm, code, reason, n, ver, vers⟩ 13 := by
  have h1 : bytM ⟨33, id, al, name, prio, ord, sg, so, eg, eo, sm, code, reason, n, ver, vers⟩ = (([] ++ vencs [ver]) ++ vencs [n]) := rfl
  rw [h1, show foW 33 = 6144 by decide]
  simp only [encR, show hasB 6144 0 = false by decide, show hasB 6144 1 = false by decide, show hasB 6144 2 = false by decide, show hasB 6144 3 = false by decide, show hasB 6144 4 = false by decide, show hasB 6144 5 = false by decide, show hasB 6144 6 = false by decide, show hasB 6144 7 = false by decide, show hasB 6144 8 = false by decide, show hasB 6144 9 = false by decide, show hasB 6144 10 = false by decide, show hasB 6144 11 = true by decide, show hasB 6144 12 = true by decide, if_true, Bool.false_eq_true, if_false, encF, vencs_one, vencs_two, List.nil_append, List.append_nil, List.append_assoc]
  try simp
theorem right_valid (m : MV) : rightM m = validB m := by
  by_cases hk : knW m.kind = true
  · have hin : m.kind ∈ kindsW := by simpa [knW] using hk
    obtain ⟨kind, id, al, name, prio, ord, sg, so, eg, eo, sm, code, reason, n, ver, vers⟩ := m
    simp only [kindsW, List.mem_cons, List.not_mem_nil, or_false] at hin
    rcases hin with rfl | rfl | rfl | rfl | rfl | rfl | rfl | rfl | rfl | rfl | rfl | rfl | rfl | rfl | rfl | rfl | rfl
    · exact rv_3 id al name prio ord sg so eg eo sm code reason n ver vers
    · exact rv_4 id al name prio ord sg so eg eo sm code reason n ver vers
    · exact rv_5 id al name prio ord sg so eg eo sm code reason n ver vers
    · exact rv_6 id al name prio ord sg so eg eo sm code reason n ver vers
    · exact rv_7 id al name prio ord sg so eg eo sm code reason n ver vers
    · exact rv_8 id al name prio ord sg so eg eo sm code reason n ver vers
    · exact rv_9 id al name prio ord sg so eg eo sm code reason n ver vers
    · exact rv_10 id al name prio ord sg so eg eo sm code reason n ver vers
    · exact rv_11 id al name prio ord sg so eg eo sm code reason n ver vers
    · exact rv_16 id al name prio ord sg so eg eo sm code reason n ver vers
    · exact rv_21 id al name prio ord sg so eg eo sm code reason n ver vers
    · exact rv_22 id al name prio ord sg so eg eo sm code reason n ver vers
    · exact rv_23 id al name prio ord sg so eg eo sm code reason n ver vers
    · exact rv_24 id al name prio ord sg so eg eo sm code reason n ver vers
    · exact rv_25 id al name prio ord sg so eg eo sm code reason n ver vers
    · exact rv_32 id al name prio ord sg so eg eo sm code reason n ver vers
    · exact rv_33 id al name prio ord sg so eg eo sm code reason n ver vers
  · have hf : knW m.kind = false := by simpa using hk
    unfold rightM validB
    rw [hf]
    rfl
theorem bytM_enc (m : MV) (hk : knW m.kind = true) : bytM m = encR (foW m.kind) m 13 := by
  have hin : m.kind ∈ kindsW := by simpa [knW] using hk
  obtain ⟨kind, id, al, name, prio, ord, sg, so, eg, eo, sm, code, reason, n, ver, vers⟩ := m
  simp only [kindsW, List.mem_cons, List.not_mem_nil, or_false] at hin
  rcases hin with rfl | rfl | rfl | rfl | rfl | rfl | rfl | rfl | rfl | rfl | rfl | rfl | rfl | rfl | rfl | rfl | rfl
  · exact by_3 id al name prio ord sg so eg eo sm code reason n ver vers
  · exact by_4 id al name prio ord sg so eg eo sm code reason n ver vers
  · exact by_5 id al name prio ord sg so eg eo sm code reason n ver vers
  · exact by_6 id al name prio ord sg so eg eo sm code reason n ver vers
  · exact by_7 id al name prio ord sg so eg eo sm code reason n ver vers
  · exact by_8 id al name prio ord sg so eg eo sm code reason n ver vers
  · exact by_9 id al name prio ord sg so eg eo sm code reason n ver vers
  · exact by_10 id al name prio ord sg so eg eo sm code reason n ver vers
  · exact by_11 id al name prio ord sg so eg eo sm code reason n ver vers
  · exact by_16 id al name prio ord sg so eg eo sm code reason n ver vers
  · exact by_21 id al name prio ord sg so eg eo sm code reason n ver vers
  · exact by_22 id al name prio ord sg so eg eo sm code reason n ver vers
  · exact by_23 id al name prio ord sg so eg eo sm code reason n ver vers
  · exact by_24 id al name prio ord sg so eg eo sm code reason n ver vers
  · exact by_25 id al name prio ord sg so eg eo sm code reason n ver vers
  · exact by_32 id al name prio ord sg so eg eo sm code reason n ver vers
  · exact by_33 id al name prio ord sg so eg eo sm code reason n ver vers
theorem refB_enc (m : MV) (hk : knW m.kind = true) : refB m = encM m := by
  unfold refB encM
  rw [bytM_enc m hk, vencs_one]
theorem inM_of {m : MV} (h : validB m = true) (hp : ∀ x ∈ numsM m, 0 ≤ x) : InM m := by
  have hk := own_in (valid_kind h)
  have he : encW m = true := by
    unfold validB at h
    simp only [Bool.and_eq_true] at h
    exact h.1.2
  rw [encW_nums] at he
  have hh : ∀ x ∈ numsM m, InR x := fun x hx => by
    have := List.all_eq_true.1 he x hx
    simp at this
    exact ⟨hp x hx, by omega⟩
  exact ⟨hh _ (by simp [numsM]), hh _ (by simp [numsM]), hh _ (by simp [numsM]), hh _ (by simp [numsM]), hh _ (by simp [numsM]), hh _ (by simp [numsM]), hh _ (by simp [numsM]), hh _ (by simp [numsM]), hh _ (by simp [numsM]), ⟨hk.2.1, by have := hk.2.2; omega⟩, fun x hx => hh x (by simp [numsM, hx])⟩
theorem goodV_of {m : MV} (h : validB m = true) (hp : ∀ x ∈ numsM m, 0 ≤ x) : GoodV m := by
  have hi := inM_of h hp
  have hl := valid_lens h
  exact ⟨hi.id, hi.alias_, hi.sg, hi.so, hi.eg, hi.eo, hi.code, hi.n, hi.ver, by omega, by omega, hl.2.2.1, hi.vers⟩
end Go.Proofs.YtfedofoadfipcaaDoor
