/-
  The contracts once more, each for every input in one sentence.
-/
import Derived.Test.YtajfcdhnmchabaaDoorVintL
namespace Go.Proofs.YtajfcdhnmchabaaDoor
open Go.RowKit
set_option linter.unusedVariables false

def tkE (l : List Int) : Int := if rdS l = 0 then 2 else 0
def tkR (l : List Int) : List Int := if rdS l = 0 then [] else l.drop (rdS l)
theorem rdN_zero {l : List Int} (h : rdS l = 0) : rdN l = 0 := by
  match l with
  | [] => rfl
  | x :: r =>
    simp only [rdS] at h
    simp only [rdN]
    have := vlen_bd x
    split at h
    · rename_i h2; rw [if_pos h2]
    · omega
theorem tkR_bytes {l : List Int} (h : Bytes l) : Bytes (tkR l) := by unfold tkR; split; exact Bytes.nil; exact h.drop _

theorem take_u (A : Option Addr) (c : Nat) (l : List Int) (w : World) (h : Sl w A c l) (hb : Bytes l) (hl : l.length ≤ 70368744177664) :
    Calls Tryd.prog 17 #[.slice A l.length c] w fun e w' =>
      ∃ A' c', e = .returned (.tuple #[.int .u64 (rdN l), .slice A' (tkR l).length c', .int .i64 (tkE l)]) ∧ Sl w' A' c' (tkR l) ∧ Below w.heap.size w w' := by
  unfold tkR tkE
  by_cases h0 : rdS l = 0
  · rw [if_pos h0, if_pos h0, rdN_zero h0]
    refine (take_no A c l w h.rd hb h.le hl h0).mono ?_
    rintro e w' ⟨rfl, rfl⟩
    exact ⟨none, 0, rfl, Sl.none_ _, Below.refl _ _⟩
  · rw [if_neg h0, if_neg h0]
    refine (take_yes A c l w h.rd hb h.le hl h0).mono ?_
    rintro e w' ⟨A', c', rfl, hown, hbel⟩
    exact ⟨A', c', rfl, Sl.of_own hown, hbel⟩
theorem refTake_u (A : Option Addr) (c : Nat) (l : List Int) (w : World) (h : Sl w A c l) (hb : Bytes l) (hl : l.length ≤ 70368744177664) :
    Calls Tryd.prog 20 #[.slice A l.length c] w fun e w' =>
      ∃ A' c', e = .returned (.tuple #[.int .u64 (rdN l), .slice A' (tkR l).length c', .int .i64 (tkE l)]) ∧ Sl w' A' c' (tkR l) ∧ Below w.heap.size w w' := by
  unfold tkR tkE
  by_cases h0 : rdS l = 0
  · rw [if_pos h0, if_pos h0, rdN_zero h0]
    refine (refTake_no A c l w h.rd hb h.le hl h0).mono ?_
    rintro e w' ⟨rfl, hbel⟩
    exact ⟨none, 0, rfl, Sl.none_ _, hbel⟩
  · rw [if_neg h0, if_neg h0]
    refine (refTake_yes A c l w h.rd hb h.le hl h0).mono ?_
    rintro e w' ⟨A', c', rfl, hown, hbel⟩
    exact ⟨A', c', rfl, Sl.of_own hown, hbel⟩
def ttT (l : List Int) (most : Int) : List Int := if vtkE l most = 0 then vtkT l else []
def ttR (l : List Int) (most : Int) : List Int := if vtkE l most = 0 then vtkR l else []
theorem ttT_bytes {l : List Int} (h : Bytes l) (most : Int) : Bytes (ttT l most) := by unfold ttT; split; exact (h.drop _).take _; exact Bytes.nil
theorem ttR_bytes {l : List Int} (h : Bytes l) (most : Int) : Bytes (ttR l most) := by unfold ttR; split; exact (h.drop _).drop _; exact Bytes.nil
theorem tt_u (A : Option Addr) (c : Nat) (l : List Int) (most : Int) (w : World) (h : Sl w A c l) (hb : Bytes l) (hl : l.length ≤ 70368744177664) (hm : most < 9223372036854775808) :
    Calls Tryd.prog 21 #[.slice A l.length c, .int .i64 most] w fun e w' =>
      ∃ A1 c1 A2 c2, e = .returned (.tuple #[.slice A1 (ttT l most).length c1, .slice A2 (ttR l most).length c2, .int .i64 (vtkE l most)]) ∧
        Sl w' A1 c1 (ttT l most) ∧ Sl w' A2 c2 (ttR l most) ∧ Below w.heap.size w w' := by
  unfold ttT ttR
  by_cases h0 : vtkE l most = 0
  · rw [if_pos h0, if_pos h0, h0]
    refine (tt_ok A c l most w h.rd hb h.le hl hm h0).mono ?_
    rintro e w' ⟨A1, c1, A2, c2, rfl, ho1, ho2, hbel⟩
    exact ⟨A1, c1, A2, c2, rfl, Sl.of_own ho1, Sl.of_own ho2, hbel⟩
  · rw [if_neg h0, if_neg h0]
    refine (tt_bad A c l most _ w h.rd hb h.le hl hm rfl h0).mono ?_
    rintro e w' ⟨rfl, rfl⟩
    exact ⟨none, 0, none, 0, rfl, Sl.none_ _, Sl.none_ _, Below.refl _ _⟩
theorem refTT_u (A : Option Addr) (c : Nat) (l : List Int) (most : Int) (w : World) (h : Sl w A c l) (hb : Bytes l) (hl : l.length ≤ 70368744177664) (hm : most < 9223372036854775808) :
    Calls Tryd.prog 22 #[.slice A l.length c, .int .i64 most] w fun e w' =>
      ∃ A1 c1 A2 c2, e = .returned (.tuple #[.slice A1 (ttT l most).length c1, .slice A2 (ttR l most).length c2, .int .i64 (vtkE l most)]) ∧
        Sl w' A1 c1 (ttT l most) ∧ Sl w' A2 c2 (ttR l most) ∧ Below w.heap.size w w' := by
  unfold ttT ttR
  by_cases h0 : vtkE l most = 0
  · rw [if_pos h0, if_pos h0, h0]
    refine (refTT_ok A c l most w h.rd hb h.le hl hm h0).mono ?_
    rintro e w' ⟨A1, c1, A2, c2, rfl, ho1, ho2, hbel⟩
    exact ⟨A1, c1, A2, c2, rfl, Sl.of_own ho1, Sl.of_own ho2, hbel⟩
  · rw [if_neg h0, if_neg h0]
    refine (refTT_bad A c l most _ w h.rd hb h.le hl hm rfl h0).mono ?_
    rintro e w' ⟨rfl, hbel⟩
    exact ⟨none, 0, none, 0, rfl, Sl.none_ _, Sl.none_ _, hbel⟩
def vbnd (s : Int) : Int := if s = 1 then 64 else if s = 2 then 16384 else if s = 4 then 1073741824 else 4611686018427387904
/-- The encoding of n that has s bytes, or nothing; the error. -/
def wiE (n s : Int) : Int := if s ≠ 1 ∧ s ≠ 2 ∧ s ≠ 4 ∧ s ≠ 8 then 1 else if n < vbnd s then 0 else 3
def wiB (n s : Int) : List Int := if wiE n s = 0 then wenc n s.toNat else []
def nuE (n : Int) : Int := if n < 4611686018427387904 then 0 else 3
def nuB (n : Int) : List Int := if nuE n = 0 then venc n else []
theorem isSize_of (s : Int) (h : ¬ (s ≠ 1 ∧ s ≠ 2 ∧ s ≠ 4 ∧ s ≠ 8)) : ∃ t, IsSize s s.toNat (vbnd s) t := by
  rcases (show s = 1 ∨ s = 2 ∨ s = 4 ∨ s = 8 by omega) with rfl | rfl | rfl | rfl
  · exact ⟨0, .inl ⟨rfl, rfl, rfl, rfl⟩⟩
  · exact ⟨1, .inr (.inl ⟨rfl, rfl, rfl, rfl⟩)⟩
  · exact ⟨2, .inr (.inr (.inl ⟨rfl, rfl, rfl, rfl⟩))⟩
  · exact ⟨3, .inr (.inr (.inr ⟨rfl, rfl, rfl, rfl⟩))⟩
theorem wiB_bytes (n s : Int) (h0 : 0 ≤ n) : Bytes (wiB n s) := by
  unfold wiB wiE
  by_cases h : s ≠ 1 ∧ s ≠ 2 ∧ s ≠ 4 ∧ s ≠ 8
  · rw [if_pos h, if_neg (by omega)]; exact Bytes.nil
  · rw [if_neg h]
    by_cases hn : n < vbnd s
    · rw [if_pos hn, if_pos rfl]
      obtain ⟨t, ht⟩ := isSize_of s h
      have hs : s = s.toNat := by omega
      rw [hs] at ht
      exact wenc_bytes ht h0 (by rw [← hs]; exact hn)
    · rw [if_neg hn, if_neg (by omega)]; exact Bytes.nil
theorem nuB_bytes (n : Int) (h0 : 0 ≤ n) : Bytes (nuB n) := by
  unfold nuB nuE
  by_cases h : n < 4611686018427387904
  · rw [if_pos h, if_pos rfl]; exact (venc_le n h0 h).2.2
  · rw [if_neg h, if_neg (by omega)]; exact Bytes.nil
theorem wide_u (n s : Int) (w : World) (ht : Tab w) (h0 : 0 ≤ n) :
    Calls Tryd.prog 12 #[.int .u64 n, .int .i64 s] w fun e w' =>
      ∃ A' c', e = .returned (.tuple #[.slice A' (wiB n s).length c', .int .i64 (wiE n s)]) ∧ Own w' w.heap.size A' c' (wiB n s) ∧ Below w.heap.size w w' := by
  unfold wiB wiE
  by_cases h : s ≠ 1 ∧ s ≠ 2 ∧ s ≠ 4 ∧ s ≠ 8
  · rw [if_pos h, if_neg (by omega)]
    refine (wide_arg n s w h.1 h.2.1 h.2.2.1 h.2.2.2).mono ?_
    rintro e w' ⟨rfl, rfl⟩
    exact ⟨none, 0, rfl, Own.nil _ _, Below.refl _ _⟩
  · rw [if_neg h]
    obtain ⟨t, hs⟩ := isSize_of s h
    by_cases hn : n < vbnd s
    · rw [if_pos hn, if_pos rfl]
      exact wide_ok n s _ _ t w ht hs h0 hn
    · rw [if_neg hn, if_neg (by omega)]
      refine (wide_long n s _ _ t w hs (by omega)).mono ?_
      rintro e w' ⟨rfl, rfl⟩
      exact ⟨none, 0, rfl, Own.nil _ _, Below.refl _ _⟩
theorem refWide_u (n s : Int) (w : World) (h0 : 0 ≤ n) :
    Calls Tryd.prog 13 #[.int .u64 n, .int .i64 s] w fun e w' =>
      ∃ A' c', e = .returned (.tuple #[.slice A' (wiB n s).length c', .int .i64 (wiE n s)]) ∧ Own w' w.heap.size A' c' (wiB n s) ∧ Below w.heap.size w w' := by
  unfold wiB wiE
  by_cases h : s ≠ 1 ∧ s ≠ 2 ∧ s ≠ 4 ∧ s ≠ 8
  · rw [if_pos h, if_neg (by omega)]
    refine (refWide_arg n s w h.1 h.2.1 h.2.2.1 h.2.2.2).mono ?_
    rintro e w' ⟨rfl, rfl⟩
    exact ⟨none, 0, rfl, Own.nil _ _, Below.refl _ _⟩
  · rw [if_neg h]
    obtain ⟨t, hs⟩ := isSize_of s h
    by_cases hn : n < vbnd s
    · rw [if_pos hn, if_pos rfl]
      exact refWide_ok n s _ _ t w hs h0 hn
    · rw [if_neg hn, if_neg (by omega)]
      refine (refWide_long n s _ _ t w hs h0 (by omega)).mono ?_
      rintro e w' ⟨rfl, rfl⟩
      exact ⟨none, 0, rfl, Own.nil _ _, Below.refl _ _⟩
theorem num_u (n : Int) (w : World) (ht : Tab w) (h0 : 0 ≤ n) :
    Calls Tryd.prog 10 #[.int .u64 n] w fun e w' =>
      ∃ A' c', e = .returned (.tuple #[.slice A' (nuB n).length c', .int .i64 (nuE n)]) ∧ Own w' w.heap.size A' c' (nuB n) ∧ Below w.heap.size w w' := by
  unfold nuB nuE
  by_cases h : n < 4611686018427387904
  · rw [if_pos h, if_pos rfl]
    exact num_ok n w ht h0 h
  · rw [if_neg h, if_neg (by omega)]
    refine (num_long n w (by omega)).mono ?_
    rintro e w' ⟨rfl, rfl⟩
    exact ⟨none, 0, rfl, Own.nil _ _, Below.refl _ _⟩
theorem refNum_u (n : Int) (w : World) (h0 : 0 ≤ n) :
    Calls Tryd.prog 11 #[.int .u64 n] w fun e w' =>
      ∃ A' c', e = .returned (.tuple #[.slice A' (nuB n).length c', .int .i64 (nuE n)]) ∧ Own w' w.heap.size A' c' (nuB n) ∧ Below w.heap.size w w' := by
  unfold nuB nuE
  by_cases h : n < 4611686018427387904
  · rw [if_pos h, if_pos rfl]
    exact refNum_ok n w h0 h
  · rw [if_neg h, if_neg (by omega)]
    refine (refNum_long n w (by omega)).mono ?_
    rintro e w' ⟨rfl, rfl⟩
    exact ⟨none, 0, rfl, Own.nil _ _, Below.refl _ _⟩
end Go.Proofs.YtajfcdhnmchabaaDoor
