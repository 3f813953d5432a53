/-
  word's fitting and valid, by value.
-/
import Derived.Test.YtdcjnkakibeigaaDoorWordE
namespace Go.Proofs.YtdcjnkakibeigaaDoor
open Go.RowKit
set_option linter.unusedVariables false
set_option linter.unusedSimpArgs false
def fitB (m : MV) : Bool :=
  if m.kind = 3 then namB m.name.length && (decide (m.ord = 1) || decide (m.ord = 2)) && clB m
  else if m.kind = 4 then m.some_ || decide (m.sg = 0 ∧ m.so = 0)
  else if m.kind = 5 ∨ m.kind = 8 ∨ m.kind = 11 ∨ m.kind = 25 then decide (m.reason.length ≤ 64)
  else if m.kind = 6 ∨ m.kind = 9 then namB m.name.length
  else if m.kind = 22 then namB m.name.length && !lessB m.eg m.eo m.sg m.so
  else if m.kind = 32 then decide (1 ≤ m.vers.length) && decide (m.vers.length ≤ 8)
  else true
section
variable {kind id alias_ prio ord sg so eg eo code n ver : Int} {name reason vers : List Int} {some_ : Bool} {nA : Option Addr} {nc : Nat} {rA : Option Addr} {rc : Nat} {vA : Option Addr} {vc : Nat} {w : World}
theorem fit_3 (hl : name.length ≤ 9223372036854775807) : Calls Tryd.prog 68 #[.agg (mvC ⟨3, id, alias_, name, prio, ord, sg, so, eg, eo, some_, code, reason, n, ver, vers⟩ nA nc rA rc vA vc)] w fun r w' => r = .returned (.bool (fitB ⟨3, id, alias_, name, prio, ord, sg, so, eg, eo, some_, code, reason, n, ver, vers⟩)) ∧ Below w.heap.size w w' := by
  have e0 : fitB ⟨3, id, alias_, name, prio, ord, sg, so, eg, eo, some_, code, reason, n, ver, vers⟩ = (namB name.length && (decide (ord = 1) || decide (ord = 2)) && clB ⟨3, id, alias_, name, prio, ord, sg, so, eg, eo, some_, code, reason, n, ver, vers⟩) := rfl
  rw [e0]
  clear e0
  have C1 := Lib.hid (fun W => naming_any nA name.length nc W hl)
  have C2 := Lib.hid (fun W => closing_any ⟨3, id, alias_, name, prio, ord, sg, so, eg, eo, some_, code, reason, n, ver, vers⟩ nA nc rA rc vA vc W)
  obtain ⟨b1, hb1⟩ : ∃ b, b = namB name.length := ⟨_, rfl⟩
  obtain ⟨b2, hb2⟩ : ∃ b, b = clB ⟨3, id, alias_, name, prio, ord, sg, so, eg, eo, some_, code, reason, n, ver, vers⟩ := ⟨_, rfl⟩
  rw [← hb1] at C1 ⊢
  rw [← hb2] at C2 ⊢
  clear hb1 hb2
  unfold mvC at C2 ⊢
  cases b1 with
  | false =>
    simp only [Bool.false_and]
    go_enter Tryd.func68, Tryd.ntmps68
    go_wp2_with fail
    refine (C1.out _).mono ?_
    rintro e w1 ⟨rfl, rfl⟩
    go_wp2_with fail
    go_ret
    exact ⟨rfl, (Below.refl _ _).alloc (Nat.le_refl _) _⟩
  | true =>
    by_cases h1 : ord = 1
    · subst h1
      rw [show (true && (decide ((1 : Int) = 1) || decide ((1 : Int) = 2)) && b2) = b2 by simp]
      go_enter Tryd.func68, Tryd.ntmps68
      go_wp2_with fail
      refine (C1.out _).mono ?_
      rintro e w1 ⟨rfl, rfl⟩
      go_wp2_with fail
      refine (C2.out _).mono ?_
      rintro e w2 ⟨rfl, hb⟩
      have HB := Lib.hid (((Below.refl w.heap.size w).alloc (Nat.le_refl _) _).trans (hb.mono (by simp)))
      clear hb
      go_wp2_with fail
      go_ret
      exact ⟨rfl, HB.out⟩
    · have q1 : (ord == 1) = false := by simpa using h1
      by_cases h2 : ord = 2
      · subst h2
        rw [show (true && (decide ((2 : Int) = 1) || decide ((2 : Int) = 2)) && b2) = b2 by simp]
        go_enter Tryd.func68, Tryd.ntmps68
        go_wp2_with fail
        refine (C1.out _).mono ?_
        rintro e w1 ⟨rfl, rfl⟩
        go_wp2_with fail
        refine (C2.out _).mono ?_
        rintro e w2 ⟨rfl, hb⟩
        have HB := Lib.hid (((Below.refl w.heap.size w).alloc (Nat.le_refl _) _).trans (hb.mono (by simp)))
        clear hb
        go_wp2_with fail
        go_ret
        exact ⟨rfl, HB.out⟩
      · have q2 : (ord == 2) = false := by simpa using h2
        rw [show (true && (decide (ord = 1) || decide (ord = 2)) && b2) = false by simp [h1, h2]]
        go_enter Tryd.func68, Tryd.ntmps68
        go_wp2_with fail
        refine (C1.out _).mono ?_
        rintro e w1 ⟨rfl, rfl⟩
        go_wp2_with fail
        go_ret
        exact ⟨rfl, (Below.refl _ _).alloc (Nat.le_refl _) _⟩
theorem fit_4 : Calls Tryd.prog 68 #[.agg (mvC ⟨4, id, alias_, name, prio, ord, sg, so, eg, eo, some_, code, reason, n, ver, vers⟩ nA nc rA rc vA vc)] w fun r w' => r = .returned (.bool (fitB ⟨4, id, alias_, name, prio, ord, sg, so, eg, eo, some_, code, reason, n, ver, vers⟩)) ∧ Below w.heap.size w w' := by
  have e0 : fitB ⟨4, id, alias_, name, prio, ord, sg, so, eg, eo, some_, code, reason, n, ver, vers⟩ = (some_ || decide (sg = 0 ∧ so = 0)) := rfl
  rw [e0]
  clear e0
  unfold mvC
  cases some_ with
  | true =>
    rw [Bool.true_or]
    go_enter Tryd.func68, Tryd.ntmps68
    go_wp2_with fail
    go_ret
    exact ⟨rfl, (Below.refl _ _).alloc (Nat.le_refl _) _⟩
  | false =>
    rw [Bool.false_or]
    obtain ⟨b, hb⟩ : ∃ b, b = decide (sg = 0 ∧ so = 0) := ⟨_, rfl⟩
    rw [← hb]
    have HB := Lib.hid hb
    clear hb
    go_enter Tryd.func68, Tryd.ntmps68
    go_wp2_with fail
    all_goals (
      go_ret
      exact ⟨by rw [HB.out]; simp [*], (Below.refl _ _).alloc (Nat.le_refl _) _⟩)
theorem fit_r (hk : kind = 5 ∨ kind = 8 ∨ kind = 11 ∨ kind = 25) (hl : reason.length ≤ 9223372036854775807) : Calls Tryd.prog 68 #[.agg (mvC ⟨kind, id, alias_, name, prio, ord, sg, so, eg, eo, some_, code, reason, n, ver, vers⟩ nA nc rA rc vA vc)] w fun r w' => r = .returned (.bool (fitB ⟨kind, id, alias_, name, prio, ord, sg, so, eg, eo, some_, code, reason, n, ver, vers⟩)) ∧ Below w.heap.size w w' := by
  have e0 : fitB ⟨kind, id, alias_, name, prio, ord, sg, so, eg, eo, some_, code, reason, n, ver, vers⟩ = decide (reason.length ≤ 64) := by
    unfold fitB
    simp only
    rw [if_neg (by omega), if_neg (by omega), if_pos hk]
  rw [e0]
  obtain ⟨b, hb⟩ : ∃ b, b = decide (reason.length ≤ 64) := ⟨_, rfl⟩
  have h1 : decide ((reason.length : Int) ≤ 64) = b := by rw [hb]; exact decide_eq_decide.2 (by omega)
  have h2 := hb.symm
  rw [h2]
  clear e0 hb
  unfold mvC
  rcases hk with rfl | rfl | rfl | rfl
  all_goals (
    go_enter Tryd.func68, Tryd.ntmps68
    go_wp2_with fail
    go_ret
    exact ⟨rfl, (Below.refl _ _).alloc (Nat.le_refl _) _⟩)
theorem fit_n (hk : kind = 6 ∨ kind = 9) (hl : name.length ≤ 9223372036854775807) : Calls Tryd.prog 68 #[.agg (mvC ⟨kind, id, alias_, name, prio, ord, sg, so, eg, eo, some_, code, reason, n, ver, vers⟩ nA nc rA rc vA vc)] w fun r w' => r = .returned (.bool (fitB ⟨kind, id, alias_, name, prio, ord, sg, so, eg, eo, some_, code, reason, n, ver, vers⟩)) ∧ Below w.heap.size w w' := by
  have e0 : fitB ⟨kind, id, alias_, name, prio, ord, sg, so, eg, eo, some_, code, reason, n, ver, vers⟩ = namB name.length := by
    unfold fitB
    simp only
    rw [if_neg (by omega), if_neg (by omega), if_neg (by omega), if_pos hk]
  rw [e0]
  have C1 := Lib.hid (fun W => naming_any nA name.length nc W hl)
  obtain ⟨b1, hb1⟩ : ∃ b, b = namB name.length := ⟨_, rfl⟩
  rw [← hb1] at C1 ⊢
  clear e0 hb1
  unfold mvC
  rcases hk with rfl | rfl
  all_goals (
    go_enter Tryd.func68, Tryd.ntmps68
    go_wp2_with fail
    refine (C1.out _).mono ?_
    rintro e w1 ⟨rfl, rfl⟩
    go_wp2_with fail
    go_ret
    exact ⟨rfl, (Below.refl _ _).alloc (Nat.le_refl _) _⟩)
theorem fit_22 (hl : name.length ≤ 9223372036854775807) : Calls Tryd.prog 68 #[.agg (mvC ⟨22, id, alias_, name, prio, ord, sg, so, eg, eo, some_, code, reason, n, ver, vers⟩ nA nc rA rc vA vc)] w fun r w' => r = .returned (.bool (fitB ⟨22, id, alias_, name, prio, ord, sg, so, eg, eo, some_, code, reason, n, ver, vers⟩)) ∧ Below w.heap.size w w' := by
  have e0 : fitB ⟨22, id, alias_, name, prio, ord, sg, so, eg, eo, some_, code, reason, n, ver, vers⟩ = (namB name.length && !lessB eg eo sg so) := rfl
  rw [e0]
  have C1 := Lib.hid (fun W => naming_any nA name.length nc W hl)
  have C2 := Lib.hid (fun W => LessW_any eg eo sg so W)
  obtain ⟨b1, hb1⟩ : ∃ b, b = namB name.length := ⟨_, rfl⟩
  obtain ⟨b2, hb2⟩ : ∃ b, b = lessB eg eo sg so := ⟨_, rfl⟩
  rw [← hb1] at C1 ⊢
  rw [← hb2] at C2 ⊢
  clear e0 hb1 hb2
  unfold mvC
  cases b1 with
  | false =>
    simp only [Bool.false_and]
    go_enter Tryd.func68, Tryd.ntmps68
    go_wp2_with fail
    refine (C1.out _).mono ?_
    rintro e w1 ⟨rfl, rfl⟩
    go_wp2_with fail
    go_ret
    exact ⟨rfl, (Below.refl _ _).alloc (Nat.le_refl _) _⟩
  | true =>
    simp only [Bool.true_and]
    go_enter Tryd.func68, Tryd.ntmps68
    go_wp2_with fail
    refine (C1.out _).mono ?_
    rintro e w1 ⟨rfl, rfl⟩
    go_wp2_with fail
    refine (C2.out _).mono ?_
    rintro e w2 ⟨rfl, hb⟩
    have HB := Lib.hid (((Below.refl w.heap.size w).alloc (Nat.le_refl _) _).trans (hb.mono (by simp)))
    clear hb
    go_wp2_with fail
    go_ret
    exact ⟨rfl, HB.out⟩
theorem fit_32 (hl : vers.length ≤ 9223372036854775807) : Calls Tryd.prog 68 #[.agg (mvC ⟨32, id, alias_, name, prio, ord, sg, so, eg, eo, some_, code, reason, n, ver, vers⟩ nA nc rA rc vA vc)] w fun r w' => r = .returned (.bool (fitB ⟨32, id, alias_, name, prio, ord, sg, so, eg, eo, some_, code, reason, n, ver, vers⟩)) ∧ Below w.heap.size w w' := by
  have e0 : fitB ⟨32, id, alias_, name, prio, ord, sg, so, eg, eo, some_, code, reason, n, ver, vers⟩ = (decide (1 ≤ vers.length) && decide (vers.length ≤ 8)) := rfl
  rw [e0]
  clear e0
  unfold mvC
  by_cases h : 1 ≤ vers.length
  · have h1 : decide (1 ≤ (vers.length : Int)) = true := by simp; omega
    have h2 : decide (1 ≤ vers.length) = true := by simpa using h
    rw [h2, Bool.true_and]
    obtain ⟨b, hb⟩ : ∃ b, b = decide (vers.length ≤ 8) := ⟨_, rfl⟩
    have h4 : decide ((vers.length : Int) ≤ 8) = b := by rw [hb]; apply decide_eq_decide.2; omega
    have h5 := hb.symm
    rw [h5]
    clear hb
    go_enter Tryd.func68, Tryd.ntmps68
    go_wp2_with fail
    go_ret
    exact ⟨rfl, (Below.refl _ _).alloc (Nat.le_refl _) _⟩
  · have h0 : vers.length = 0 := by omega
    rw [h0]
    go_enter Tryd.func68, Tryd.ntmps68
    go_wp2_with fail
    go_ret
    exact ⟨rfl, (Below.refl _ _).alloc (Nat.le_refl _) _⟩
theorem fit_o (h3 : (kind == 3) = false) (h4 : (kind == 4) = false) (h5 : (kind == 5) = false) (h8 : (kind == 8) = false) (h11 : (kind == 11) = false) (h25 : (kind == 25) = false) (h6 : (kind == 6) = false) (h9 : (kind == 9) = false) (h22 : (kind == 22) = false) (h32 : (kind == 32) = false) : Calls Tryd.prog 68 #[.agg (mvC ⟨kind, id, alias_, name, prio, ord, sg, so, eg, eo, some_, code, reason, n, ver, vers⟩ nA nc rA rc vA vc)] w fun r w' => r = .returned (.bool (fitB ⟨kind, id, alias_, name, prio, ord, sg, so, eg, eo, some_, code, reason, n, ver, vers⟩)) ∧ Below w.heap.size w w' := by
  have e0 : fitB ⟨kind, id, alias_, name, prio, ord, sg, so, eg, eo, some_, code, reason, n, ver, vers⟩ = true := by
    simp only [beq_eq_false_iff_ne, ne_eq] at *
    unfold fitB
    simp only
    rw [if_neg (by omega), if_neg (by omega), if_neg (by omega), if_neg (by omega), if_neg (by omega), if_neg (by omega)]
  rw [e0]
  clear e0
  unfold mvC
  go_enter Tryd.func68, Tryd.ntmps68
  go_wp2_with fail
  go_ret
  exact ⟨rfl, (Below.refl _ _).alloc (Nat.le_refl _) _⟩
end
theorem fitting_any (m : MV) (nA : Option Addr) (nc : Nat) (rA : Option Addr) (rc : Nat) (vA : Option Addr) (vc : Nat) (w : World) (hn : m.name.length ≤ 9223372036854775807) (hr : m.reason.length ≤ 9223372036854775807) (hv : m.vers.length ≤ 9223372036854775807) :
    Calls Tryd.prog 68 #[.agg (mvC m nA nc rA rc vA vc)] w fun r w' => r = .returned (.bool (fitB m)) ∧ Below w.heap.size w w' := by
  obtain ⟨kind, id, alias_, name, prio, ord, sg, so, eg, eo, some_, code, reason, n, ver, vers⟩ := m
  by_cases h3 : kind = 3
  · subst h3; exact fit_3 hn
  by_cases h4 : kind = 4
  · subst h4; exact fit_4
  by_cases h5 : kind = 5 ∨ kind = 8 ∨ kind = 11 ∨ kind = 25
  · exact fit_r h5 hr
  by_cases h6 : kind = 6 ∨ kind = 9
  · exact fit_n h6 hn
  by_cases h22 : kind = 22
  · subst h22; exact fit_22 hn
  by_cases h32 : kind = 32
  · subst h32; exact fit_32 hv
  have z : ∀ k : Int, kind ≠ k → (kind == k) = false := fun k h => by simpa using h
  exact fit_o (z 3 h3) (z 4 h4) (z 5 (by omega)) (z 8 (by omega)) (z 11 (by omega)) (z 25 (by omega)) (z 6 (by omega)) (z 9 (by omega)) (z 22 h22) (z 32 h32)
def validB (m : MV) : Bool := knW m.kind && decide (bits .andNot .u16 (setW m) (foW m.kind) = 0) && encW m && fitB m
end Go.Proofs.YtdcjnkakibeigaaDoor
