/-
  word's valid: naming, closing, Less, encodable, fitting, valid, by value.
-/
import Derived.Test.YtdcjnkakibeigaaDoorWordD
namespace Go.Proofs.YtdcjnkakibeigaaDoor
open Go.RowKit
set_option linter.unusedVariables false
set_option linter.unusedSimpArgs false
def namB (n : Nat) : Bool := decide (1 ≤ n) && decide (n ≤ 32)
theorem naming_any (A : Option Addr) (n c : Nat) (w : World) (hn : n ≤ 9223372036854775807) : Calls Tryd.prog 75 #[.slice A n c] w fun r w' => r = .returned (.bool (namB n)) ∧ w = w' := by
  by_cases h : 1 ≤ n
  · have h1 : decide (1 ≤ (n : Int)) = true := by simp; omega
    have h2 : decide (1 ≤ n) = true := by simpa using h
    have h3 : namB n = decide (n ≤ 32) := by unfold namB; rw [h2]; rfl
    obtain ⟨b, hb⟩ : ∃ b, b = decide (n ≤ 32) := ⟨_, rfl⟩
    have h4 : decide ((n : Int) ≤ 32) = b := by rw [hb]; apply decide_eq_decide.2; omega
    rw [h3, ← hb]
    have h5 := hb.symm
    clear hb h3
    go_enter Tryd.func75, Tryd.ntmps75
    go_wp2_with fail
    go_ret
    exact ⟨rfl, rfl⟩
  · have h0 : n = 0 := by omega
    subst h0
    go_enter Tryd.func75, Tryd.ntmps75
    go_wp2_with fail
    go_ret
    exact ⟨rfl, rfl⟩
def lessB (a b c d : Int) : Bool := if a = c then decide (b < d) else decide (a < c)
theorem LessW_any (a b c d : Int) (w : World) : Calls Tryd.prog 77 #[.agg #[.int .u64 a, .int .u64 b], .agg #[.int .u64 c, .int .u64 d]] w fun r w' => r = .returned (.bool (lessB a b c d)) ∧ Below w.heap.size w w' := by
  by_cases h : a = c
  · subst h
    have h2 : lessB a b a d = decide (b < d) := if_pos rfl
    rw [h2]
    have h3 : (a != a) = false := by simp
    go_enter Tryd.func77, Tryd.ntmps77
    go_wp2_with fail
    go_ret
    exact ⟨rfl, ((Below.refl _ _).alloc (Nat.le_refl _) _).alloc (by simp) _⟩
  · have h2 : lessB a b c d = decide (a < c) := if_neg h
    rw [h2]
    have h3 : (a != c) = true := by simpa using h
    go_enter Tryd.func77, Tryd.ntmps77
    go_wp2_with fail
    go_ret
    exact ⟨rfl, ((Below.refl _ _).alloc (Nat.le_refl _) _).alloc (by simp) _⟩
def clB (m : MV) : Bool := decide (m.eo = 0) && (decide (m.eg = 0) || decide (m.sg < m.eg))
theorem closing_any (m : MV) (nA : Option Addr) (nc : Nat) (rA : Option Addr) (rc : Nat) (vA : Option Addr) (vc : Nat) (w : World) :
    Calls Tryd.prog 76 #[.agg (mvC m nA nc rA rc vA vc)] w fun r w' => r = .returned (.bool (clB m)) ∧ Below w.heap.size w w' := by
  obtain ⟨kind, id, alias_, name, prio, ord, sg, so, eg, eo, some_, code, reason, n, ver, vers⟩ := m
  unfold mvC clB
  simp only
  by_cases h1 : eo = 0
  · subst h1
    by_cases h2 : eg = 0
    · subst h2
      go_enter Tryd.func76, Tryd.ntmps76
      go_wp2_with fail
      go_ret
      exact ⟨rfl, (Below.refl _ _).alloc (Nat.le_refl _) _⟩
    · have h3 : (eg == 0) = false := by simpa using h2
      have h4 : decide (eg = 0) = false := by simpa using h2
      rw [h4]
      have h5 : (decide ((0 : Int) = 0) && (false || decide (sg < eg))) = decide (sg < eg) := by simp
      rw [h5]
      clear h5
      go_enter Tryd.func76, Tryd.ntmps76
      go_wp2_with fail
      go_ret
      exact ⟨rfl, (Below.refl _ _).alloc (Nat.le_refl _) _⟩
  · have h3 : (eo == 0) = false := by simpa using h1
    have h4 : decide (eo = 0) = false := by simpa using h1
    rw [h4, Bool.false_and]
    go_enter Tryd.func76, Tryd.ntmps76
    go_wp2_with fail
    go_ret
    exact ⟨rfl, (Below.refl _ _).alloc (Nat.le_refl _) _⟩
theorem run_max9 (a b c d e f g h i : Int) : ∃ M, (∀ (ts : Array TypeId) (t : TypeId) (w : World), (Builtin.max_ ts t #[.int .u64 a, .int .u64 b, .int .u64 c, .int .u64 d, .int .u64 e, .int .u64 f, .int .u64 g, .int .u64 h, .int .u64 i]).run Tryd.prog w = .ok (.int .u64 M) w) ∧ ∀ t, M ≤ t ↔ a ≤ t ∧ b ≤ t ∧ c ≤ t ∧ d ≤ t ∧ e ≤ t ∧ f ≤ t ∧ g ≤ t ∧ h ≤ t ∧ i ≤ t := by
  have em : ∀ a b : Int, (if a < b then b else a) = max a b := fun a b => by split <;> omega
  refine ⟨max a (max b (max c (max d (max e (max f (max g (max h i))))))), fun ts t w => ?_, fun t => ?_⟩
  · simp [Builtin.max_, Builtin.max2, em]
    try simp only [Int.max_assoc]
  · simp only [Int.max_le]
/-- All of a message's numbers have an encoding. -/
def encW (m : MV) : Bool := decide (∀ x ∈ [m.id, m.alias_, m.sg, m.so, m.eg, m.eo, m.code, m.n, m.ver] ++ m.vers, x ≤ 4611686018427387903)
set_option maxHeartbeats 800000 in
theorem encodableW_any (m : MV) (nA : Option Addr) (nc : Nat) (rA : Option Addr) (rc : Nat) (vA : Option Addr) (vc : Nat) (w : World) (hv : RdI .u64 w vA m.vers) (hl : m.vers.length ≤ 1000000) :
    Calls Tryd.prog 67 #[.agg (mvC m nA nc rA rc vA vc)] w fun r w' => r = .returned (.bool (encW m)) ∧ Below w.heap.size w w' := by
  obtain ⟨kind, id, alias_, name, prio, ord, sg, so, eg, eo, some_, code, reason, n, ver, vers⟩ := m
  obtain ⟨M, hM, hle⟩ := run_max9 id alias_ sg so eg eo code n ver
  simp only at hv hl
  obtain ⟨R, hR⟩ : ∃ R, R = encW ⟨kind, id, alias_, name, prio, ord, sg, so, eg, eo, some_, code, reason, n, ver, vers⟩ := ⟨_, rfl⟩
  have hR2 : R = decide (M ≤ 4611686018427387903 ∧ ∀ x ∈ vers, x ≤ 4611686018427387903) := by
    rw [hR]
    unfold encW
    apply decide_eq_decide.2
    rw [hle]
    simp [and_assoc]
  rw [← hR]
  have HR := Lib.hid hR2
  have HV := Lib.hid hv
  clear hR hR2 hle hv
  unfold mvC
  go_enter Tryd.func67, Tryd.ntmps67
  go_wp2_with fail
  go_loopw [3, 32] (fun mv iv wr => ∃ (k : Nat) (X : Int), mv = .int .u64 X ∧ iv = .int .i64 k ∧ k ≤ vers.length ∧ Hid ((X ≤ 4611686018427387903 ↔ M ≤ 4611686018427387903 ∧ ∀ x ∈ vers.take k, x ≤ 4611686018427387903) ∧ Below w.heap.size w wr)) (fun _ iv _ => vers.length - (intOf iv).toNat)
  case atStart => exact ⟨0, M, rfl, rfl, by omega, Lib.hid ⟨by simp, (Below.refl _ _).alloc (Nat.le_refl _) _⟩⟩
  case round =>
    obtain ⟨k, X, rfl, rfl, hk, HI⟩ := hrel
    rename World => wr
    by_cases hlt : k < vers.length
    · obtain ⟨bk, off, y, rfl, hb, hy, hc⟩ := (HV.out.below HI.out.2).at_ hlt
      obtain ⟨Z, hZ⟩ : ∃ Z, Z = max X y := ⟨_, rfl⟩
      have z1 : (if X < y then y else X) = Z := by rw [hZ]; split <;> omega
      have z2 : (if y < X then X else y) = Z := by rw [hZ]; split <;> omega
      have z3 : max X y = Z := hZ.symm
      have hiff : Z ≤ 4611686018427387903 ↔ M ≤ 4611686018427387903 ∧ ∀ x ∈ vers.take (k + 1), x ≤ 4611686018427387903 := by
        have e1 : vers.take (k + 1) = vers.take k ++ [y] := by
          rw [List.take_add_one, hy]; rfl
        rw [e1, hZ, Int.max_le, HI.out.1]
        simp only [List.mem_append, List.mem_singleton]
        constructor
        · rintro ⟨⟨a, b⟩, c⟩
          exact ⟨a, fun x hx => hx.elim (b x) (fun e => e ▸ c)⟩
        · rintro ⟨a, b⟩
          exact ⟨⟨a, fun x hx => b x (.inl hx)⟩, b y (.inr rfl)⟩
      have HIF := Lib.hid hiff
      have HB := Lib.hid HI.out.2
      clear hiff hZ hy HI
      go_wp2_with fail
      go_roundw
      case rel => exact ⟨k + 1, Z, rfl, by go_num, by omega, Lib.hid ⟨HIF.out, HB.out⟩⟩
      case measure => simp [intOf]; omega
    · have hd : decide (k < vers.length) = false := by simpa using hlt
      have hi := HI.out
      rw [List.take_of_length_le (by omega)] at hi
      have hr : decide (X ≤ 4611686018427387903) = R := by rw [HR.out]; exact decide_eq_decide.2 hi.1
      have HB := Lib.hid hi.2
      clear hi HI
      go_wp2_with fail
      go_ret
      exact ⟨rfl, HB.out⟩
end Go.Proofs.YtdcjnkakibeigaaDoor
