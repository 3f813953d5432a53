/-
  word's valid: fieldsOf, known, set, by value.
-/
import Derived.Test.YtdcjnkakibeigaaDoorWordC
namespace Go.Proofs.YtdcjnkakibeigaaDoor
open Go.RowKit
set_option linter.unusedVariables false
set_option linter.unusedSimpArgs false
def kindsW : List Int := [3, 4, 5, 6, 7, 8, 9, 10, 11, 16, 21, 22, 23, 24, 25, 32, 33]
def knW (k : Int) : Bool := kindsW.contains k
def foW (k : Int) : Int := if k = 3 then 223 else if k = 4 then 97 else if k = 5 then 769 else if k = 6 then 5 else if k = 7 then 1 else if k = 8 then 769 else if k = 9 then 4 else if k = 10 then 1 else if k = 11 then 769 else if k = 16 then 0 else if k = 21 then 4096 else if k = 22 then 205 else if k = 23 then 1 else if k = 24 then 1 else if k = 25 then 769 else if k = 32 then 5120 else if k = 33 then 6144 else 0
structure NoKindW (k : Int) : Prop where
  kn : knW k = false
  fo : foW k = 0
  q3 : (k == 3) = false
  q4 : (k == 4) = false
  q5 : (k == 5) = false
  q6 : (k == 6) = false
  q7 : (k == 7) = false
  q8 : (k == 8) = false
  q9 : (k == 9) = false
  q10 : (k == 10) = false
  q11 : (k == 11) = false
  q16 : (k == 16) = false
  q21 : (k == 21) = false
  q22 : (k == 22) = false
  q23 : (k == 23) = false
  q24 : (k == 24) = false
  q25 : (k == 25) = false
  q32 : (k == 32) = false
  q33 : (k == 33) = false
theorem kindW_ways (k : Int) : (k = 3 ∨ k = 4 ∨ k = 5 ∨ k = 6 ∨ k = 7 ∨ k = 8 ∨ k = 9 ∨ k = 10 ∨ k = 11 ∨ k = 16 ∨ k = 21 ∨ k = 22 ∨ k = 23 ∨ k = 24 ∨ k = 25 ∨ k = 32 ∨ k = 33) ∨ NoKindW k := by
  by_cases h : k ∈ kindsW
  · left
    simpa [kindsW] using h
  · right
    have h' : ¬ (k = 3 ∨ k = 4 ∨ k = 5 ∨ k = 6 ∨ k = 7 ∨ k = 8 ∨ k = 9 ∨ k = 10 ∨ k = 11 ∨ k = 16 ∨ k = 21 ∨ k = 22 ∨ k = 23 ∨ k = 24 ∨ k = 25 ∨ k = 32 ∨ k = 33) := by simpa [kindsW] using h
    have kn : knW k = false := by unfold knW; simpa using h
    have fo : foW k = 0 := by
      unfold foW
      repeat rw [if_neg (by omega)]
    constructor
    · exact kn
    · exact fo
    all_goals (rw [beq_eq_false_iff_ne]; omega)
theorem results_tmpW2 {fn : Func} {t u : Tmp} (h : fn.results = #[.tmp t, .tmp u]) (tmps : Array Value) (P : Program) (w : World) :
    (results fn tmps).run P w = .ok (.tuple #[tmps.getD t undef, tmps.getD u undef]) w := by
  simp [results, h]
set_option maxHeartbeats 1600000 in
theorem fieldsOfW_any (k : Int) (w : World) : Calls Tryd.prog 65 #[.int .u64 k] w fun r w' => r = .returned (.tuple #[.int .u16 (foW k), .bool (knW k)]) ∧ w = w' := by
  rcases kindW_ways k with h | h
  · rcases h with rfl | rfl | rfl | rfl | rfl | rfl | rfl | rfl | rfl | rfl | rfl | rfl | rfl | rfl | rfl | rfl | rfl
    all_goals (
      go_enter Tryd.func65, Tryd.ntmps65
      go_wp2_with fail
      exact bodyPost_ret (results_tmpW2 rfl _ _ _) rfl ⟨rfl, rfl⟩)
  · obtain ⟨kn, fo, q3, q4, q5, q6, q7, q8, q9, q10, q11, q16, q21, q22, q23, q24, q25, q32, q33⟩ := h
    rw [kn, fo]
    clear kn fo
    go_enter Tryd.func65, Tryd.ntmps65
    go_wp2_with fail
    exact bodyPost_ret (results_tmpW2 rfl _ _ _) rfl ⟨rfl, rfl⟩
def orW (b : Bool) (x m : Int) : Int := if b then bits .or .u16 x m else x
def setW (m : MV) : Int := orW (m.n != 0) (orW (m.ver != 0) (orW (decide (0 < m.vers.length)) (orW (decide (0 < m.reason.length)) (orW (m.code != 0) (orW (decide (¬ (m.eg = 0 ∧ m.eo = 0))) (orW (decide (¬ (m.sg = 0 ∧ m.so = 0))) (orW m.some_ (orW (m.ord != 0) (orW (m.prio != 0) (orW (decide (0 < m.name.length)) (orW (m.alias_ != 0) (orW (m.id != 0) (0) 1) 2) 4) 8) 16) 32) 64) 128) 256) 512) 1024) 2048) 4096
theorem addW_no (m : Int) (g : Nat) (w : World) : Calls Tryd.prog 74 #[.int .u16 m, .bool false, .pointer (some ⟨g, 0, none⟩)] w fun r w' => r = .returned (.tuple #[]) ∧ w = w' := by
  go_enter Tryd.func74, Tryd.ntmps74
  go_wp2
  go_end0
  exact ⟨rfl, rfl⟩
theorem addW_yes (m x : Int) (g : Nat) (w : World) (hc : w.cell? ⟨g, 0, none⟩ = some (.int .u16 x)) (hf : w.frozen? ⟨g, 0, none⟩ = false) :
    Calls Tryd.prog 74 #[.int .u16 m, .bool true, .pointer (some ⟨g, 0, none⟩)] w fun r w' => r = .returned (.tuple #[]) ∧ w' = w.setCell ⟨g, 0, none⟩ (.int .u16 (bits .or .u16 x m)) := by
  obtain ⟨y, hy⟩ : ∃ y, y = bits .or .u16 x m := ⟨_, rfl⟩
  rw [← hy]
  have h := hy.symm
  clear hy
  go_enter Tryd.func74, Tryd.ntmps74
  go_wp2
  go_end0
  exact ⟨rfl, rfl⟩
def StW (w W : World) (F : Array Value) (x : Int) : Prop := Blk W w.heap.size 31 F ∧ Blk W (w.heap.size + 1) 104 #[.int .u16 x] ∧ Below w.heap.size w W
theorem addW_st {w W : World} {F : Array Value} {x : Int} (m : Int) (b : Bool) (h : StW w W F x) :
    Calls Tryd.prog 74 #[.int .u16 m, .bool b, .pointer (some ⟨w.heap.size + 1, 0, none⟩)] W fun r w' => r = .returned (.tuple #[]) ∧ StW w w' F (orW b x m) := by
  obtain ⟨k0, k1, hb⟩ := h
  cases b
  · exact (addW_no m _ W).mono fun r w' ⟨h1, h2⟩ => ⟨h1, h2 ▸ ⟨k0, k1, hb⟩⟩
  · refine (addW_yes m x (w.heap.size + 1) W (k1.cell 0) (k1.frozen 0)).mono ?_
    rintro r w' ⟨h1, rfl⟩
    exact ⟨h1, k0.far (p := ⟨w.heap.size + 1, 0, none⟩) (by show w.heap.size ≠ w.heap.size + 1; omega) _, k1.set_ 0 _, hb.setCell (p := ⟨w.heap.size + 1, 0, none⟩) (by show w.heap.size ≤ w.heap.size + 1; omega) _⟩
set_option maxHeartbeats 12800000 in
set_option maxRecDepth 20000 in
theorem setW_any (m : MV) (nA : Option Addr) (nc : Nat) (rA : Option Addr) (rc : Nat) (vA : Option Addr) (vc : Nat) (w : World) (hn : m.name.length ≤ 9223372036854775807) (hr : m.reason.length ≤ 9223372036854775807) (hv : m.vers.length ≤ 9223372036854775807) :
    Calls Tryd.prog 66 #[.agg (mvC m nA nc rA rc vA vc)] w fun r w' => r = .returned (.int .u16 (setW m)) ∧ Below w.heap.size w w' := by
  have hmf : ∀ (fn : Fn) (first cap : Array Value) (w : World), (Instr.makeFunc fn first cap).run Tryd.prog w = .ok (.func fn first cap) w := fun _ _ _ _ => rfl
  have HS0 := Lib.hid (show StW w ((w.alloc (.cells (mvC m nA nc rA rc vA vc) 31)).alloc (.cells #[.int .u16 0] 104)) (mvC m nA nc rA rc vA vc) 0 by
    refine ⟨(Blk.new w _ _).alloc _, ?_, ((Below.refl _ _).alloc (Nat.le_refl _) _).alloc (by simp) _⟩
    have := Blk.new (w.alloc (.cells (mvC m nA nc rA rc vA vc) 31)) 104 #[.int .u16 0]
    simpa using this)
  obtain ⟨R, hR⟩ : ∃ R, R = setW m := ⟨_, rfl⟩
  rw [← hR]
  have HR := Lib.hid hR
  clear hR
  unfold mvC at HS0 ⊢
  go_enter Tryd.func66, Tryd.ntmps66
  go_wp2_with fail
  refine (addW_st _ _ HS0.out).mono ?_
  rintro r w1 ⟨rfl, s1⟩
  have HS1 := Lib.hid s1
  clear s1
  have c1_2 := HS1.out.1.cell 2
  simp at c1_2
  go_wp2_with fail
  clear c1_2
  refine (addW_st _ _ HS1.out).mono ?_
  rintro r w2 ⟨rfl, s1⟩
  have HS2 := Lib.hid s1
  clear s1
  have c2_3 := HS2.out.1.cell 3
  simp at c2_3
  go_wp2_with fail
  clear c2_3
  refine (addW_st _ _ HS2.out).mono ?_
  rintro r w3 ⟨rfl, s1⟩
  have HS3 := Lib.hid s1
  clear s1
  have c3_4 := HS3.out.1.cell 4
  simp at c3_4
  go_wp2_with fail
  clear c3_4
  refine (addW_st _ _ HS3.out).mono ?_
  rintro r w4 ⟨rfl, s1⟩
  have HS4 := Lib.hid s1
  clear s1
  have c4_5 := HS4.out.1.cell 5
  simp at c4_5
  go_wp2_with fail
  clear c4_5
  refine (addW_st _ _ HS4.out).mono ?_
  rintro r w5 ⟨rfl, s1⟩
  have HS5 := Lib.hid s1
  clear s1
  have c5_10 := HS5.out.1.cell 10
  simp at c5_10
  go_wp2_with fail
  clear c5_10
  refine (addW_st _ _ HS5.out).mono ?_
  rintro r w6 ⟨rfl, s1⟩
  have HS6 := Lib.hid s1
  clear s1
  have c6_6 := HS6.out.1.cell 6
  have c6_7 := HS6.out.1.cell 7
  simp at c6_6 c6_7
  go_wp2_with fail
  all_goals (
    clear c6_6 c6_7
    refine (addW_st _ _ HS6.out).mono ?_
    rintro r w7 ⟨rfl, s1⟩
    have HS7 := Lib.hid s1
    clear s1
    have c7_8 := HS7.out.1.cell 8
    have c7_9 := HS7.out.1.cell 9
    simp at c7_8 c7_9
    go_wp2_with fail
    all_goals (
      clear c7_8 c7_9
      refine (addW_st _ _ HS7.out).mono ?_
      rintro r w8 ⟨rfl, s1⟩
      have HS8 := Lib.hid s1
      clear s1
      have c8_11 := HS8.out.1.cell 11
      simp at c8_11
      go_wp2_with fail
      clear c8_11
      refine (addW_st _ _ HS8.out).mono ?_
      rintro r w9 ⟨rfl, s1⟩
      have HS9 := Lib.hid s1
      clear s1
      have c9_12 := HS9.out.1.cell 12
      simp at c9_12
      go_wp2_with fail
      clear c9_12
      refine (addW_st _ _ HS9.out).mono ?_
      rintro r w10 ⟨rfl, s1⟩
      have HS10 := Lib.hid s1
      clear s1
      have c10_15 := HS10.out.1.cell 15
      simp at c10_15
      go_wp2_with fail
      clear c10_15
      refine (addW_st _ _ HS10.out).mono ?_
      rintro r w11 ⟨rfl, s1⟩
      have HS11 := Lib.hid s1
      clear s1
      have c11_14 := HS11.out.1.cell 14
      simp at c11_14
      go_wp2_with fail
      clear c11_14
      refine (addW_st _ _ HS11.out).mono ?_
      rintro r w12 ⟨rfl, s1⟩
      have HS12 := Lib.hid s1
      clear s1
      have c12_13 := HS12.out.1.cell 13
      simp at c12_13
      go_wp2_with fail
      clear c12_13
      refine (addW_st _ _ HS12.out).mono ?_
      rintro r w13 ⟨rfl, s1⟩
      have HS13 := Lib.hid s1
      clear s1
      have cc := HS13.out.2.1.cell 0
      simp at cc
      go_wp2_with fail
      go_ret
      exact ⟨by rw [HR.out]; simp [setW, *], HS13.out.2.2⟩))
end Go.Proofs.YtdcjnkakibeigaaDoor
