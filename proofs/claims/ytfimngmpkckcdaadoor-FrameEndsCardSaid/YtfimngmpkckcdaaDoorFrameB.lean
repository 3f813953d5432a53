/-
  frame.Bytes on the two frames of the examples: its parts.
-/
import Derived.Test.YtfimngmpkckcdaaDoorFrameA
import Derived.Test.YtfimngmpkckcdaaDoorVintE
namespace Go.Proofs.YtfimngmpkckcdaaDoor
open Go.RowKit
set_option linter.unusedVariables false
set_option linter.unusedSimpArgs false

/-- A frame, by value. -/
def FV (k id off n cd : Int) (fin : Bool) (A : Option Addr) (la ca : Nat) (B : Option Addr) (lb cb : Nat) (R : Option Addr) (lr cr : Nat) : Value :=
  .agg #[.int .u64 k, .int .u64 id, .int .u64 off, .int .u64 n, .int .u64 cd, .bool fin, .slice A la ca, .slice B lb cb, .slice R lr cr]
def orB (b : Bool) (x m : Int) : Int := if b then bits .or .u8 x m else x
def setI (id off n cd : Int) (fin : Bool) (la lb lr : Nat) : Int :=
  orB (decide (0 < lr)) (orB (decide (0 < lb)) (orB (decide (0 < la)) (orB fin (orB (n != 0) (orB (off != 0) (orB (cd != 0) (orB (id != 0) 0 1) 2) 4) 8) 16) 32) 64) 128
theorem add_no (m : Int) (g : Nat) (w : World) : Calls Tryd.prog 46 #[.int .u8 m, .bool false, .pointer (some ⟨g, 0, none⟩)] w fun r w' => r = .returned (.tuple #[]) ∧ w = w' := by
  go_enter Tryd.func46, Tryd.ntmps46
  go_wp2
  go_end0
  exact ⟨rfl, rfl⟩
theorem add_yes (m x : Int) (g : Nat) (w : World) (hc : w.cell? ⟨g, 0, none⟩ = some (.int .u8 x)) (hf : w.frozen? ⟨g, 0, none⟩ = false) :
    Calls Tryd.prog 46 #[.int .u8 m, .bool true, .pointer (some ⟨g, 0, none⟩)] w fun r w' => r = .returned (.tuple #[]) ∧ w' = w.setCell ⟨g, 0, none⟩ (.int .u8 (bits .or .u8 x m)) := by
  obtain ⟨y, hy⟩ : ∃ y, y = bits .or .u8 x m := ⟨_, rfl⟩
  rw [← hy]
  have h := hy.symm
  clear hy
  go_enter Tryd.func46, Tryd.ntmps46
  go_wp2
  go_end0
  exact ⟨rfl, rfl⟩
def StS (w W : World) (F : Array Value) (x : Int) : Prop := Blk W w.heap.size 28 F ∧ Blk W (w.heap.size + 1) 60 #[.int .u8 x] ∧ Below w.heap.size w W
theorem add_st {w W : World} {F : Array Value} {x : Int} (m : Int) (b : Bool) (h : StS w W F x) :
    Calls Tryd.prog 46 #[.int .u8 m, .bool b, .pointer (some ⟨w.heap.size + 1, 0, none⟩)] W fun r w' => r = .returned (.tuple #[]) ∧ StS w w' F (orB b x m) := by
  obtain ⟨k0, k1, hb⟩ := h
  cases b
  · exact (add_no m _ W).mono fun r w' ⟨h1, h2⟩ => ⟨h1, h2 ▸ ⟨k0, k1, hb⟩⟩
  · refine (add_yes m x (w.heap.size + 1) W (k1.cell 0) (k1.frozen 0)).mono ?_
    rintro r w' ⟨h1, rfl⟩
    exact ⟨h1, k0.far (p := ⟨w.heap.size + 1, 0, none⟩) (by show w.heap.size ≠ w.heap.size + 1; omega) _, k1.set_ 0 _, hb.setCell (p := ⟨w.heap.size + 1, 0, none⟩) (by show w.heap.size ≤ w.heap.size + 1; omega) _⟩
set_option maxHeartbeats 1600000 in
theorem set_any (k id off n cd : Int) (fin : Bool) (A : Option Addr) (la ca : Nat) (B : Option Addr) (lb cb : Nat) (R : Option Addr) (lr cr : Nat) (w : World) (ha : la ≤ 9223372036854775807) (hb : lb ≤ 9223372036854775807) (hr : lr ≤ 9223372036854775807) :
    Calls Tryd.prog 31 #[FV k id off n cd fin A la ca B lb cb R lr cr] w fun r w' => r = .returned (.int .u8 (setI id off n cd fin la lb lr)) ∧ Below w.heap.size w w' := by
  have hmf : ∀ (fn : Fn) (first cap : Array Value) (w : World), (Instr.makeFunc fn first cap).run Tryd.prog w = .ok (.func fn first cap) w := fun _ _ _ _ => rfl
  have S0 : StS w ((w.alloc (.cells #[.int .u64 k, .int .u64 id, .int .u64 off, .int .u64 n, .int .u64 cd, .bool fin, .slice A la ca, .slice B lb cb, .slice R lr cr] 28)).alloc (.cells #[.int .u8 0] 60)) #[.int .u64 k, .int .u64 id, .int .u64 off, .int .u64 n, .int .u64 cd, .bool fin, .slice A la ca, .slice B lb cb, .slice R lr cr] 0 := by
    refine ⟨(Blk.new w _ _).alloc _, ?_, ((Below.refl _ _).alloc (Nat.le_refl _) _).alloc (by simp) _⟩
    have := Blk.new (w.alloc (.cells #[.int .u64 k, .int .u64 id, .int .u64 off, .int .u64 n, .int .u64 cd, .bool fin, .slice A la ca, .slice B lb cb, .slice R lr cr] 28)) 60 #[.int .u8 0]
    simpa using this
  have HS0 := Lib.hid S0
  unfold FV
  clear S0
  go_enter Tryd.func31, Tryd.ntmps31
  go_wp2_with fail
  refine (add_st _ _ HS0.out).mono ?_
  rintro r w1 ⟨rfl, s1⟩
  have c1 := s1.1.cell 4
  have HS1 := Lib.hid s1
  clear s1
  go_wp2_with fail
  refine (add_st _ _ HS1.out).mono ?_
  rintro r w2 ⟨rfl, s2⟩
  have c2 := s2.1.cell 2
  have HS2 := Lib.hid s2
  clear s2
  go_wp2_with fail
  refine (add_st _ _ HS2.out).mono ?_
  rintro r w3 ⟨rfl, s3⟩
  have c3 := s3.1.cell 3
  have HS3 := Lib.hid s3
  clear s3
  go_wp2_with fail
  refine (add_st _ _ HS3.out).mono ?_
  rintro r w4 ⟨rfl, s4⟩
  have c4 := s4.1.cell 5
  have HS4 := Lib.hid s4
  clear s4
  go_wp2_with fail
  refine (add_st _ _ HS4.out).mono ?_
  rintro r w5 ⟨rfl, s5⟩
  have c5 := s5.1.cell 6
  have HS5 := Lib.hid s5
  clear s5
  go_wp2_with fail
  refine (add_st _ _ HS5.out).mono ?_
  rintro r w6 ⟨rfl, s6⟩
  have c6 := s6.1.cell 7
  have HS6 := Lib.hid s6
  clear s6
  go_wp2_with fail
  refine (add_st _ _ HS6.out).mono ?_
  rintro r w7 ⟨rfl, s7⟩
  have c7 := s7.1.cell 8
  have HS7 := Lib.hid s7
  clear s7
  go_wp2_with fail
  refine (add_st _ _ HS7.out).mono ?_
  rintro r w8 ⟨rfl, s8⟩
  have c8 := s8.2.1.cell 0
  have HS8 := Lib.hid s8
  clear s8
  go_wp2_with fail
  go_ret
  exact ⟨rfl, HS8.out.2.2⟩
end Go.Proofs.YtfimngmpkckcdaaDoor
