/-
  The reference's Read of a head: the ways that end early.
-/
import Derived.Test.YtomapklkbfjafaaHeadQ
namespace Go.Proofs.Ytomapklkbfjafaa
open Go.RowKit
set_option linter.unusedVariables false

def Z5 : Array Value := #[.bool false, .int .i64 0, .bool false, .slice none 0 0, .slice none 0 0]
def RdNo (E : Int) (w : World) (r : Ending) (w' : World) : Prop :=
  r = .returned (.tuple #[.agg #[.bool false, .int .i64 0, .bool false, .slice none 0 0, .slice none 0 0], .int .i64 0, .int .i64 0, .int .i64 E]) ∧ Below w.heap.size w w'
theorem z5_start (w : World) : Blk ((w.alloc (.cells #[.bool false, .int .i64 0, .bool false, .slice none 0 0, .slice none 0 0] 27)).alloc (.cells #[.bool false, .int .i64 0, .bool false, .slice none 0 0, .slice none 0 0] 27)) w.heap.size 27 #[.bool false, .int .i64 0, .bool false, .slice none 0 0, .slice none 0 0] ∧
    Blk ((w.alloc (.cells #[.bool false, .int .i64 0, .bool false, .slice none 0 0, .slice none 0 0] 27)).alloc (.cells #[.bool false, .int .i64 0, .bool false, .slice none 0 0, .slice none 0 0] 27)) (w.heap.size + 1) 27 #[.bool false, .int .i64 0, .bool false, .slice none 0 0, .slice none 0 0] ∧
    Below w.heap.size w ((w.alloc (.cells #[.bool false, .int .i64 0, .bool false, .slice none 0 0, .slice none 0 0] 27)).alloc (.cells #[.bool false, .int .i64 0, .bool false, .slice none 0 0, .slice none 0 0] 27)) :=
  ⟨(Blk.new w 27 _).alloc _, by have := Blk.new (w.alloc (.cells #[.bool false, .int .i64 0, .bool false, .slice none 0 0, .slice none 0 0] 27)) 27 #[.bool false, .int .i64 0, .bool false, .slice none 0 0, .slice none 0 0]; simpa using this,
    ((Below.refl _ _).alloc (Nat.le_refl _) _).alloc (by simp) _⟩
theorem bytes_head {f : Int} {r : List Int} (h : Bytes (f :: r)) : 0 ≤ f ∧ f < 256 := h f (by simp)

set_option maxHeartbeats 1600000 in
theorem refRead_early (A : Option Addr) (c : Nat) (f : Int) (r : List Int) (E : Int) (w : World) (h : Sl w A c (f :: r)) (hb : Bytes (f :: r)) (hl : (f :: r).length ≤ 300)
    (hE : (f / 64 % 2 = 0 ∧ E = 4) ∨ (¬ f / 64 % 2 = 0 ∧ f < 128 ∧ r.length < 8 ∧ E = 2) ∨ (¬ f / 64 % 2 = 0 ∧ f < 128 ∧ ¬ r.length < 8 ∧ r.length < 28 ∧ E = 4) ∨
      (¬ f / 64 % 2 = 0 ∧ ¬ f < 128 ∧ ¬ f / 16 % 4 = 0 ∧ ¬ f / 16 % 4 = 2 ∧ E = 4) ∨ (¬ f / 64 % 2 = 0 ∧ ¬ f < 128 ∧ f / 16 % 4 = 0 ∧ r.length < 4 ∧ E = 2) ∨ (¬ f / 64 % 2 = 0 ∧ ¬ f < 128 ∧ ¬ f / 16 % 4 = 0 ∧ f / 16 % 4 = 2 ∧ r.length < 4 ∧ E = 2)) :
    Calls Try.prog 11 #[.slice A (f :: r).length c] w fun e w' => RdNo E w e w' := by
  obtain ⟨b, off, rfl, hbw⟩ := h.rd.some_ (by simp)
  have h00 := h.rd.cell (j := 0) (x := f) rfl
  simp only [Nat.add_zero] at h00
  obtain ⟨hf0, hf1⟩ := bytes_head hb
  obtain ⟨n, hn⟩ : ∃ n, n = (f :: r).length := ⟨_, rfl⟩
  have hrl : (r.length : Int) = (n : Int) - 1 := by rw [hn]; simp
  have hn1 : 1 ≤ n := by rw [hn]; simp
  rw [← hn] at hl ⊢
  have hz : ((n : Int) == 0) = false := by simp; omega
  have hq0 : ¬ n = 0 := by omega
  obtain ⟨x, hx⟩ : ∃ x, x = f / 16 % 4 := ⟨_, rfl⟩
  obtain ⟨y, hy⟩ : ∃ y, y = f / 64 % 2 := ⟨_, rfl⟩
  rw [← hx, ← hy] at hE
  have Z := Lib.hid (z5_start w)
  have HN := Lib.hid hn
  have HX := Lib.hid hx.symm
  have HY := Lib.hid hy.symm
  have hx4 : 0 ≤ x ∧ x < 4 := by omega
  have hy2 : 0 ≤ y ∧ y < 2 := by omega
  have gx : f / 16 % 4 = x := hx.symm
  have gy : f / 64 % 2 = y := hy.symm
  clear h hb hn hx hy
  rcases hE with ⟨e1, rfl⟩ | ⟨e1, e2, e3, rfl⟩ | ⟨e1, e2, e3, e4, rfl⟩ | ⟨e1, e2, e3, e4, rfl⟩ | ⟨e1, e2, e3, e4, rfl⟩ | ⟨e1, e2, e3, e4, e5, rfl⟩
  all_goals
    try subst e1
    try have m1 : (y == 0) = false := by simp; omega
    try have m9 : n < 9 := by omega
    try have m9' : ¬ n < 9 := by omega
    try have m29 : n < 29 := by omega
    try have m5 : n < 5 := by omega
    go_enter Try.func11, Try.ntmps11
    go_wp2_with fail
    first
      | (refine bodyPost_ret (results_row_tmp3 rfl _ _ w.heap.size 27 _ (0, 0) _ rfl Z.out.1 Try.underlying27 rfl (by kernel_rfl)) rfl ?_
         exact ⟨rfl, Z.out.2.2⟩)
      | (refine bodyPost_ret (results_row_tmp3 rfl _ _ w.heap.size 27 _ (0, 0) _ rfl (Z.out.1.alloc _) Try.underlying27 rfl (by kernel_rfl)) rfl ?_
         exact ⟨rfl, Z.out.2.2.alloc (by simp; omega) _⟩)
theorem refRead_nil (A : Option Addr) (c : Nat) (w : World) :
    Calls Try.prog 11 #[.slice A 0 c] w fun e w' => RdNo 2 w e w' := by
  have Z := Lib.hid (z5_start w)
  go_enter Try.func11, Try.ntmps11
  go_wp2_with fail
  refine bodyPost_ret (results_row_tmp3 rfl _ _ w.heap.size 27 _ (0, 0) _ rfl Z.out.1 Try.underlying27 rfl (by kernel_rfl)) rfl ?_
  exact ⟨rfl, Z.out.2.2⟩
def RdYes (p : List Int) (w : World) (r : Ending) (w' : World) : Prop :=
  ∃ A1 c1 A2 c2, r = .returned (.tuple #[.agg #[.bool (hdLong p 0), .int .i64 (hdLvl p 0), .bool false, .slice A1 (hdTo p 0).length c1, .slice A2 (hdFr p 0).length c2], .int .i64 (rdAt p), .int .i64 (rdAt p + hdV p 0), .int .i64 0]) ∧
      Own w' w.heap.size A1 c1 (hdTo p 0) ∧ Own w' w.heap.size A2 c2 (hdFr p 0) ∧ Below w.heap.size w w'
set_option maxHeartbeats 1600000 in
theorem refRead_short (A : Option Addr) (c : Nat) (f : Int) (r : List Int) (w : World) (h : Sl w A c (f :: r)) (hb : Bytes (f :: r)) (hl : (f :: r).length ≤ 300)
    (hf : ¬ f / 64 % 2 = 0) (hlt : f < 128) (hr : 28 ≤ r.length) :
    Calls Try.prog 11 #[.slice A (f :: r).length c] w fun e w' => RdYes (f :: r) w e w' := by
  obtain ⟨m1, m2, m3, m4, m5, m6, m7⟩ := (short_gen (r := r) hlt hf).2.2 hr
  have hY : ∀ e w', (∃ A1 c1, e = .returned (.tuple #[.agg #[.bool false, .int .i64 2, .bool false, .slice A1 8 c1, .slice none 0 0], .int .i64 9, .int .i64 ((f :: r).length : Int), .int .i64 0]) ∧ Own w' w.heap.size A1 c1 (r.take 8) ∧ Below w.heap.size w w') → RdYes (f :: r) w e w' := by
    rintro e w' ⟨A1, c1, rfl, o, b⟩
    refine ⟨A1, c1, none, 0, ?_, by rw [m6]; exact o, by rw [m7]; exact Own.nil _ _, b⟩
    rw [m2, m3, m4, m5, m6, m7]
    have e8 : (r.take 8).length = 8 := by rw [List.length_take]; omega
    have e9 : (9 + ((r.length : Int) - 8)) = ((f :: r).length : Int) := by rw [List.length_cons]; omega
    rw [e8, e9]
    rfl
  have HY := Lib.hid hY
  obtain ⟨A', s1, s2, _⟩ := slice_both A c (f :: r) 1 9 .i64 .i64 (by omega) (by rw [List.length_cons]; omega) h.le
  have e1 : ((f :: r).take 9).drop 1 = r.take 8 := rfl
  rw [e1] at s1 s2
  have e8 : (r.take 8).length = 8 := by rw [List.length_take]; omega
  have s1' : ∀ w, (Instr.slice 22 (.slice A (f :: r).length c) (some (.int .i64 1)) (some (.int .i64 9)) none).run Try.prog w = .ok (.slice A' (r.take 8).length (c - 1)) w := s1
  obtain ⟨b, off, rfl, hbw⟩ := h.rd.some_ (by simp)
  have h00 := h.rd.cell (j := 0) (x := f) rfl
  simp only [Nat.add_zero] at h00
  obtain ⟨hf0, hf1⟩ := bytes_head hb
  obtain ⟨T, hT⟩ : ∃ T, T = r.take 8 := ⟨_, rfl⟩
  obtain ⟨n, hn⟩ : ∃ n, n = (f :: r).length := ⟨_, rfl⟩
  have hn29 : ¬ n < 29 := by rw [hn, List.length_cons]; omega
  rw [← hn] at s1' hl
  rw [← hT] at s1' s2 e8
  have HY2 := Lib.hid (show ∀ e w', (∃ A1 c1, e = .returned (.tuple #[.agg #[.bool false, .int .i64 2, .bool false, .slice A1 T.length c1, .slice none 0 0], .int .i64 9, .int .i64 (n : Int), .int .i64 0]) ∧ Own w' w.heap.size A1 c1 T ∧ Below w.heap.size w w') → RdYes (f :: r) w e w' by
    rw [hT, hn, show (r.take 8).length = 8 by rw [← hT]; exact e8]; exact HY.out)
  rw [show (f :: r).length = n from hn.symm]
  have hz : ((n : Int) == 0) = false := by simp; omega
  have m9 : ¬ n < 9 := by omega
  obtain ⟨y, hy⟩ : ∃ y, y = f / 64 % 2 := ⟨_, rfl⟩
  rw [← hy] at hf
  have gy : f / 64 % 2 = y := hy.symm
  have hy2 : 0 ≤ y ∧ y < 2 := by omega
  have my : (y == 0) = false := by simp; omega
  have Z := Lib.hid (z5_start w)
  have RT := Lib.hid (s2 _ (h.rd.below Z.out.2.2))
  have CC := Lib.hid (copy_any A' (c - 1) T _ RT.out (by omega))
  have E8 := Lib.hid e8
  have hT8 : T.length ≤ 8 := by omega
  clear hY HY h hb hn hT hr s1 s2 e1 e8 m1 m2 m3 m4 m5 m6 m7 RT hy
  go_enter Try.func11, Try.ntmps11
  go_wp2_with fail
  refine CC.out.mono ?_
  rintro e w4 ⟨A4, c4, rfl, o4, b4⟩
  have k0 := Z.out.1.below b4 Z.out.1.lt
  have O4 := Lib.hid (o4.base_le Z.out.2.2.size)
  have B4 := Lib.hid (Z.out.2.2.trans (b4.mono Z.out.2.2.size))
  have K0 := Lib.hid k0
  have f0 := k0.frozen 0
  have f1 := k0.frozen 1
  have f2 := k0.frozen 2
  have f3 := k0.frozen 3
  have f4 := k0.frozen 4
  have q0 := k0.cell 0
  have q1 := k0.cell 1
  have q2 := k0.cell 2
  have q3 := k0.cell 3
  have q4 := k0.cell 4
  clear k0 o4 b4 CC
  go_wp2_with fail
  show bodyPost _ _ _ _ _ (set5 w4 w.heap.size _ _ _ _ _)
  refine bodyPost_ret (results_row_tmp3 rfl _ _ w.heap.size 27 _ (0, 0) _ rfl (set5_blk K0.out _ _ _ _ _) Try.underlying27 rfl (by kernel_rfl)) rfl ?_
  exact HY2.out _ _ ⟨A4, c4, rfl, set5_own O4.out K0.out (by decide) _ _ _ _ _, below_set5 B4.out (Nat.le_refl _) _ _ _ _ _⟩
end Go.Proofs.Ytomapklkbfjafaa
