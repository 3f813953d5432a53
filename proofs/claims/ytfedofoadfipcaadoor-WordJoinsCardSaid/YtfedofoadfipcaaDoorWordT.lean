/-
  Has and the reference's Less and Has (made by mkWordT.py).
-/
import Derived.Test.YtfedofoadfipcaaDoorWordS
import Derived.Test.YtfedofoadfipcaaDoorWordE
namespace Go.Proofs.YtfedofoadfipcaaDoor
open Go.RowKit
set_option linter.unusedVariables false
set_option linter.unusedSimpArgs false
theorem refLessW_any (a b c d : Int) (w : World) : Calls Tryd.prog 22 #[.agg #[.int .u64 a, .int .u64 b], .agg #[.int .u64 c, .int .u64 d]] w fun r w' => r = .returned (.bool (lessB a b c d)) ∧ Below w.heap.size w w' := by
  by_cases h : a = c
  · subst h
    have h2 : lessB a b a d = decide (b < d) := if_pos rfl
    rw [h2]
    have h3 : (a != a) = false := by simp
    go_enter Tryd.func22, Tryd.ntmps22
    go_wp2_with fail
    go_ret
    exact ⟨rfl, ((Below.refl _ _).alloc (Nat.le_refl _) _).alloc (by simp) _⟩
  · have h2 : lessB a b c d = decide (a < c) := if_neg h
    rw [h2]
    have h3 : (a != c) = true := by simpa using h
    go_enter Tryd.func22, Tryd.ntmps22
    go_wp2_with fail
    go_ret
    exact ⟨rfl, ((Below.refl _ _).alloc (Nat.le_refl _) _).alloc (by simp) _⟩
def hasM (m : MV) (a b : Int) : Bool := if lessB a b m.sg m.so then false else if m.kind = 3 then (decide (m.eg = 0) || decide (a ≤ m.eg)) else if m.kind = 22 then !lessB m.eg m.eo a b else false
theorem HasW_any (m : MV) (nA : Option Addr) (nc : Nat) (rA : Option Addr) (rc : Nat) (vA : Option Addr) (vc : Nat) (a b : Int) (w : World) :
    Calls Tryd.prog 19 #[.agg (mvC m nA nc rA rc vA vc), .agg #[.int .u64 a, .int .u64 b]] w fun r w' => r = .returned (.bool (hasM m a b)) ∧ Below w.heap.size w w' := by
  obtain ⟨kind, id, alias_, name, prio, ord, sg, so, eg, eo, some_, code, reason, n, ver, vers⟩ := m
  unfold mvC hasM
  simp only
  obtain ⟨W, hW⟩ : ∃ W, W = (w.alloc (.cells #[.int .u64 kind, .int .u64 id, .int .u64 alias_, .slice nA name.length nc, .int .u8 prio, .int .u8 ord, .int .u64 sg, .int .u64 so, .int .u64 eg, .int .u64 eo, .bool some_, .int .u64 code, .slice rA reason.length rc, .int .u64 n, .int .u64 ver, .slice vA vers.length vc] 31)).alloc (.cells #[.int .u64 a, .int .u64 b] 25) := ⟨_, rfl⟩
  have b0 : Below w.heap.size w W := by rw [hW]; exact ((Below.refl _ _).alloc (Nat.le_refl _) _).alloc (by simp) _
  have KM := Lib.hid (show Blk W w.heap.size 31 #[.int .u64 kind, .int .u64 id, .int .u64 alias_, .slice nA name.length nc, .int .u8 prio, .int .u8 ord, .int .u64 sg, .int .u64 so, .int .u64 eg, .int .u64 eo, .bool some_, .int .u64 code, .slice rA reason.length rc, .int .u64 n, .int .u64 ver, .slice vA vers.length vc] by rw [hW]; exact (Blk.new _ _ _).alloc _)
  have KA := Lib.hid (show Blk W (w.heap.size + 1) 25 #[.int .u64 a, .int .u64 b] by rw [hW]; exact blk_2ndW _ _ _ _)
  have B0 := Lib.hid b0
  have C1 := Lib.hid (LessW_any a b sg so W)
  have C2 := Lib.hid (fun W => LessW_any eg eo a b W)
  obtain ⟨l1, hl1⟩ : ∃ l, l = lessB a b sg so := ⟨_, rfl⟩
  obtain ⟨l2, hl2⟩ : ∃ l, l = lessB eg eo a b := ⟨_, rfl⟩
  rw [← hl1] at C1 ⊢
  rw [← hl2] at C2 ⊢
  obtain ⟨R, hR⟩ : ∃ R, R = if l1 = true then false else if kind = 3 then (decide (eg = 0) || decide (a ≤ eg)) else if kind = 22 then !l2 else false := ⟨_, rfl⟩
  rw [← hR]
  have HR := Lib.hid hR
  clear hR
  have HW := Lib.hid hW
  clear hW b0 hl1 hl2
  go_enter Tryd.func19, Tryd.ntmps19
  go_wp2_with fail
  rw [← HW.out]
  refine C1.out.mono ?_
  rintro e w1 ⟨rfl, b1⟩
  have km := KM.out.below b1 KM.out.lt
  have ka := KA.out.below b1 KA.out.lt
  have zm := km.lt
  have za := ka.lt
  have c0 := km.cell 0
  have c8 := km.cell 8
  have c9 := km.cell 9
  have d0 := ka.cell 0
  have d1 := ka.cell 1
  simp only [List.getElem?_toArray, List.getElem?_cons_zero, List.getElem?_cons_succ] at c0 c8 c9 d0 d1
  have B1 := Lib.hid (B0.out.trans (b1.mono B0.out.size))
  clear km ka b1 HW
  cases l1 with
  | true =>
    go_wp2_with fail
    go_ret
    exact ⟨by rw [HR.out]; simp, B1.out⟩
  | false =>
    by_cases h3 : kind = 3
    · subst h3
      by_cases h0 : eg = 0
      · subst h0
        go_wp2_with fail
        go_ret
        exact ⟨by rw [HR.out]; simp, B1.out⟩
      · have q0 : (eg == 0) = false := by simpa using h0
        go_wp2_with fail
        go_ret
        exact ⟨by rw [HR.out]; simp [h0], B1.out⟩
    · have q3 : (kind == 3) = false := by simpa using h3
      by_cases h22 : kind = 22
      · subst h22
        clear q3
        go_wp2_with fail
        refine (C2.out _).mono ?_
        rintro e w2 ⟨rfl, b2⟩
        have B2 := Lib.hid (B1.out.trans (b2.mono B1.out.size))
        clear b2
        go_wp2_with fail
        go_ret
        exact ⟨by rw [HR.out]; simp, B2.out⟩
      · have q22 : (kind == 22) = false := by simpa using h22
        go_wp2_with fail
        go_ret
        exact ⟨by rw [HR.out]; simp [h3, h22], B1.out⟩
theorem refHasW_any (m : MV) (nA : Option Addr) (nc : Nat) (rA : Option Addr) (rc : Nat) (vA : Option Addr) (vc : Nat) (a b : Int) (w : World) :
    Calls Tryd.prog 20 #[.agg (mvC m nA nc rA rc vA vc), .agg #[.int .u64 a, .int .u64 b]] w fun r w' => r = .returned (.bool (hasM m a b)) ∧ Below w.heap.size w w' := by
  obtain ⟨kind, id, alias_, name, prio, ord, sg, so, eg, eo, some_, code, reason, n, ver, vers⟩ := m
  unfold mvC hasM
  simp only
  obtain ⟨W, hW⟩ : ∃ W, W = (w.alloc (.cells #[.int .u64 kind, .int .u64 id, .int .u64 alias_, .slice nA name.length nc, .int .u8 prio, .int .u8 ord, .int .u64 sg, .int .u64 so, .int .u64 eg, .int .u64 eo, .bool some_, .int .u64 code, .slice rA reason.length rc, .int .u64 n, .int .u64 ver, .slice vA vers.length vc] 28)).alloc (.cells #[.int .u64 a, .int .u64 b] 25) := ⟨_, rfl⟩
  have b0 : Below w.heap.size w W := by rw [hW]; exact ((Below.refl _ _).alloc (Nat.le_refl _) _).alloc (by simp) _
  have KM := Lib.hid (show Blk W w.heap.size 28 #[.int .u64 kind, .int .u64 id, .int .u64 alias_, .slice nA name.length nc, .int .u8 prio, .int .u8 ord, .int .u64 sg, .int .u64 so, .int .u64 eg, .int .u64 eo, .bool some_, .int .u64 code, .slice rA reason.length rc, .int .u64 n, .int .u64 ver, .slice vA vers.length vc] by rw [hW]; exact (Blk.new _ _ _).alloc _)
  have KA := Lib.hid (show Blk W (w.heap.size + 1) 25 #[.int .u64 a, .int .u64 b] by rw [hW]; exact blk_2ndW _ _ _ _)
  have B0 := Lib.hid b0
  have C1 := Lib.hid (refLessW_any a b sg so W)
  have C2 := Lib.hid (fun W => refLessW_any eg eo a b W)
  obtain ⟨l1, hl1⟩ : ∃ l, l = lessB a b sg so := ⟨_, rfl⟩
  obtain ⟨l2, hl2⟩ : ∃ l, l = lessB eg eo a b := ⟨_, rfl⟩
  rw [← hl1] at C1 ⊢
  rw [← hl2] at C2 ⊢
  obtain ⟨R, hR⟩ : ∃ R, R = if l1 = true then false else if kind = 3 then (decide (eg = 0) || decide (a ≤ eg)) else if kind = 22 then !l2 else false := ⟨_, rfl⟩
  rw [← hR]
  have HR := Lib.hid hR
  clear hR
  have HW := Lib.hid hW
  clear hW b0 hl1 hl2
  go_enter Tryd.func20, Tryd.ntmps20
  go_wp2_with fail
  rw [← HW.out]
  refine C1.out.mono ?_
  rintro e w1 ⟨rfl, b1⟩
  have km := KM.out.below b1 KM.out.lt
  have ka := KA.out.below b1 KA.out.lt
  have zm := km.lt
  have za := ka.lt
  have c0 := km.cell 0
  have c8 := km.cell 8
  have c9 := km.cell 9
  have d0 := ka.cell 0
  have d1 := ka.cell 1
  simp only [List.getElem?_toArray, List.getElem?_cons_zero, List.getElem?_cons_succ] at c0 c8 c9 d0 d1
  have B1 := Lib.hid (B0.out.trans (b1.mono B0.out.size))
  clear km ka b1 HW
  cases l1 with
  | true =>
    go_wp2_with fail
    go_ret
    exact ⟨by rw [HR.out]; simp, B1.out⟩
  | false =>
    by_cases h3 : kind = 3
    · subst h3
      by_cases h0 : eg = 0
      · subst h0
        go_wp2_with fail
        go_ret
        exact ⟨by rw [HR.out]; simp, B1.out⟩
      · have q0 : (eg == 0) = false := by simpa using h0
        go_wp2_with fail
        go_ret
        exact ⟨by rw [HR.out]; simp [h0], B1.out⟩
    · have q3 : (kind == 3) = false := by simpa using h3
      by_cases h22 : kind = 22
      · subst h22
        clear q3
        go_wp2_with fail
        refine (C2.out _).mono ?_
        rintro e w2 ⟨rfl, b2⟩
        have B2 := Lib.hid (B1.out.trans (b2.mono B1.out.size))
        clear b2
        go_wp2_with fail
        go_ret
        exact ⟨by rw [HR.out]; simp, B2.out⟩
      · have q22 : (kind == 22) = false := by simpa using h22
        go_wp2_with fail
        go_ret
        exact ⟨by rw [HR.out]; simp [h3, h22], B1.out⟩
end Go.Proofs.YtfedofoadfipcaaDoor
