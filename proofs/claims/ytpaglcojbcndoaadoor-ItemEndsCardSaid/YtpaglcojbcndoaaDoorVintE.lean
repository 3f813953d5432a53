import Derived.Test.YtpaglcojbcndoaaDoorVintD
namespace Go.Proofs.YtpaglcojbcndoaaDoor
open Go.RowKit
set_option linter.unusedVariables false

set_option maxHeartbeats 400000 in
theorem wide_arg (n s : Int) (w : World) (h1 : s ≠ 1) (h2 : s ≠ 2) (h4 : s ≠ 4) (h8 : s ≠ 8) :
    Calls Tryd.prog 62 #[.int .u64 n, .int .i64 s] w fun e w' => e = .returned (.tuple #[.slice none 0 0, .int .i64 1]) ∧ w = w' := by
  have q1 : (s == 1) = false := beq_eq_false_iff_ne.2 h1
  have q2 : (s == 2) = false := beq_eq_false_iff_ne.2 h2
  have q3 : (s == 4) = false := beq_eq_false_iff_ne.2 h4
  have q4 : (s == 8) = false := beq_eq_false_iff_ne.2 h8
  clear h1 h2 h4 h8
  go_enter Tryd.func62, Tryd.ntmps62
  go_wp2
  go_ret2
  exact ⟨rfl, rfl⟩

set_option maxHeartbeats 800000 in
theorem wide_long (n s : Int) (k : Nat) (b t : Int) (w : World) (hs : IsSize s k b t) (hn : b ≤ n) :
    Calls Tryd.prog 62 #[.int .u64 n, .int .i64 s] w fun e w' => e = .returned (.tuple #[.slice none 0 0, .int .i64 3]) ∧ w = w' := by
  have hb : s = 1 ∧ b = 64 ∨ s = 2 ∧ b = 16384 ∨ s = 4 ∧ b = 1073741824 ∨ s = 8 ∧ b = 4611686018427387904 := by unfold IsSize at hs; omega
  have HB := Lib.hid hb
  clear hb
  have ways : (s == 1) = true ∨ (s == 1) = false ∧ (s == 2) = true ∨ (s == 1) = false ∧ (s == 2) = false ∧ (s == 4) = true ∨ (s == 1) = false ∧ (s == 2) = false ∧ (s == 4) = false ∧ (s == 8) = true := by
    rcases hs with h | h | h | h <;> obtain ⟨h, _⟩ := h <;> rw [h] <;> decide
  clear hs
  rcases ways with q1 | ⟨q1, q2⟩ | ⟨q1, q2, q3⟩ | ⟨q1, q2, q3, q4⟩
  all_goals
    go_enter Tryd.func62, Tryd.ntmps62
    go_wp2_with (go_at_call 68; go_must (refine (bound_any s b _ HB.out).mono ?_); rintro e w' ⟨rfl, rfl⟩)
    go_ret2
    exact ⟨rfl, rfl⟩

set_option maxHeartbeats 400000 in
theorem num_long (n : Int) (w : World) (hn : 4611686018427387904 ≤ n) :
    Calls Tryd.prog 53 #[.int .u64 n] w fun e w' => e = .returned (.tuple #[.slice none 0 0, .int .i64 3]) ∧ w = w' := by
  have hv : vsize n = 0 := by unfold vsize; repeat (first | rw [if_neg (by omega)]); 
  have HV := Lib.hid hv
  clear hv
  have h0 : 0 ≤ n := by omega
  go_enter Tryd.func53, Tryd.ntmps53
  go_wp2_with fail
  refine (size_any n _ h0).mono ?_
  rintro e w' ⟨rfl, rfl⟩
  rw [HV.out]
  go_wp2
  go_ret2
  exact ⟨rfl, rfl⟩

/-- The size of the shortest encoding. -/
theorem vsize_is (n : Int) (h0 : 0 ≤ n) (h : n < 4611686018427387904) : ∃ k b t, IsSize (vsize n) k b t ∧ n < b ∧ vsize n = k ∧ 1 ≤ k ∧ k ≤ 8 := by
  unfold vsize IsSize
  rcases (show n < 64 ∨ 64 ≤ n ∧ n < 16384 ∨ 16384 ≤ n ∧ n < 1073741824 ∨ 1073741824 ≤ n by omega) with h1 | ⟨h1, h2⟩ | ⟨h1, h2⟩ | h1
  · exact ⟨1, 64, 0, by rw [if_pos h1]; omega, h1, by rw [if_pos h1]; rfl, by omega, by omega⟩
  · exact ⟨2, 16384, 1, by rw [if_neg (by omega), if_pos h2]; omega, h2, by rw [if_neg (by omega), if_pos h2]; rfl, by omega, by omega⟩
  · exact ⟨4, 1073741824, 2, by rw [if_neg (by omega), if_neg (by omega), if_pos h2]; omega, h2, by rw [if_neg (by omega), if_neg (by omega), if_pos h2]; rfl, by omega, by omega⟩
  · exact ⟨8, 4611686018427387904, 3, by rw [if_neg (by omega), if_neg (by omega), if_neg (by omega), if_pos h]; omega, h, by rw [if_neg (by omega), if_neg (by omega), if_neg (by omega), if_pos h]; rfl, by omega, by omega⟩
/-- The shortest encoding. -/
def venc (n : Int) : List Int := wenc n (vsize n).toNat

set_option maxHeartbeats 400000 in
theorem num_ok (n : Int) (w : World) (ht : Tab w) (h0 : 0 ≤ n) (hn : n < 4611686018427387904) :
    Calls Tryd.prog 53 #[.int .u64 n] w fun e w' =>
      ∃ A' c', e = .returned (.tuple #[.slice A' (venc n).length c', .int .i64 0]) ∧ Own w' w.heap.size A' c' (venc n) ∧ Below w.heap.size w w' := by
  obtain ⟨k, b, t, hs, hb, hk, hk1, hk8⟩ := vsize_is n h0 hn
  have hv : venc n = wenc n k := by rw [venc, hk]; rfl
  rw [hv]
  have hk0 : ((k : Int) == 0) = false := by simp; omega
  rw [hk] at hs
  have HK := Lib.hid hk
  clear hk hv
  go_enter Tryd.func53, Tryd.ntmps53
  go_wp2_with fail
  refine (size_any n _ h0).mono ?_
  rintro e w' ⟨rfl, rfl⟩
  rw [HK.out]
  go_wp2_with fail
  refine (wide_ok n k k b t _ ht hs h0 hb).mono ?_
  rintro e w' ⟨A', c', rfl, hown, hbel⟩
  go_wp2
  go_ret2
  exact ⟨A', c', rfl, hown, hbel⟩

/-- Begins l with a complete and shortest encoding? -/
def vleast (l : List Int) : Bool := decide (0 < rdS l) && decide ((rdS l : Int) = vsize (rdN l))
theorem rdN_nonneg (l : List Int) (hb : Bytes l) : 0 ≤ rdN l := by
  match l with
  | [] => simp [rdN]
  | x :: r =>
    simp only [rdN]
    split
    · omega
    · have hx := hb x (by simp)
      exact (vfold_bd _ (x % 64) 64 (Bytes.take (fun y hy => hb y (by simp [hy])) _) (by omega) (by omega)).1


theorem venc_le (n : Int) (h0 : 0 ≤ n) (hn : n < 4611686018427387904) : 1 ≤ (venc n).length ∧ (venc n).length ≤ 8 ∧ Bytes (venc n) := by
  obtain ⟨k, b, t, hs, hb, hk, hk1, hk8⟩ := vsize_is n h0 hn
  have hv : venc n = wenc n k := by rw [venc, hk]; rfl
  rw [hv, wenc_length n k hk1]
  rw [hk] at hs
  exact ⟨hk1, hk8, wenc_bytes hs h0 hb⟩
/-- A text's bytes: its length, and the text. -/
def vtext (l : List Int) : List Int := venc l.length ++ l

set_option maxHeartbeats 400000 in
theorem text_any (A : Option Addr) (c : Nat) (l : List Int) (w : World) (ht : Tab w) (hr : Rd w A l) (hl : l.length ≤ 35184372088832) :
    Calls Tryd.prog 43 #[.slice A l.length c] w fun e w' =>
      ∃ A' c', e = .returned (.slice A' (vtext l).length c') ∧ Own w' w.heap.size A' c' (vtext l) ∧ Below w.heap.size w w' := by
  have hve := venc_le (l.length : Int) (by omega) (by omega)
  have hlt : (vtext l).length = (venc l.length).length + l.length := by simp [vtext]
  have HLT := Lib.hid hlt
  obtain ⟨p, hp⟩ : ∃ p, p = venc l.length := ⟨_, rfl⟩
  rw [← hp] at hve
  have HP := Lib.hid hp
  have hw : IntKind.u64.wrap (l.length : Int) = l.length := by rw [IntKind.wrap_u64]; omega
  obtain ⟨hp1, hp8, _⟩ := hve
  clear hlt hp
  go_enter Tryd.func43, Tryd.ntmps43
  go_wp2_with fail
  refine (num_ok (l.length : Int) _ ht (by omega) (by omega)).mono ?_
  rintro e w1 ⟨A1, c1, rfl, hown, hbel⟩
  rw [← HP.out] at hown ⊢
  have hr1 := hr.below hbel
  have hsz := hbel.size
  go_wp2_with (at_builtin; go_must (refine wpList_app rfl (.tmp 12) (.tmp 13) rfl w.heap.size (l := p) (news := l) rfl rfl hown hr1 (by omega) hsz ?_); intro A' c' w' hown' hg hb)
  go_ret
  rw [HP.out] at hown'
  exact ⟨A', c', by rw [HLT.out, HP.out]; rfl, hown', hbel.trans hb⟩
end Go.Proofs.YtpaglcojbcndoaaDoor
