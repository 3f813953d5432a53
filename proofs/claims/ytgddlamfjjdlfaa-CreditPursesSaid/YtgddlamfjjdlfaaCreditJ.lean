/-
  The reference's purse: Spend; and the law's own append to the grants.
-/
import Derived.Test.YtgddlamfjjdlfaaCreditI
namespace Go.Proofs.Ytgddlamfjjdlfaa
open Go.RowKit
set_option linter.unusedVariables false
/-- Blocks that are no rows of numbers, and not x, stand. -/
def KeptO (w w' : World) (x : Nat) : Prop := ∀ g t cur, t ≠ 22 → g ≠ x → Blk w g t cur → Blk w' g t cur
theorem rSpend_nil (n : Int) (w : World) : Calls Try.prog 14 #[.pointer none, .int .u64 n] w fun r w' => r = .returned (.int .i64 6) ∧ w = w' := by
  go_enter Try.func14, Try.ntmps14
  go_wp2_with fail
  go_ret
  exact ⟨rfl, rfl⟩
theorem rSpend_no (base x : Nat) (G : Option Addr) (gc : Nat) (gr : List Int) (S : Option Addr) (sc : Nat) (sp : List Int) (n : Int) (w : World) (h : RPu w base x G gc gr S sc sp) (hg : WF .u64 gr) (hgl : gr.length ≤ 1000)
    (hs : ∀ y ∈ sp, 0 ≤ y) (hsl : sp.length ≤ 1000) (hle : sumF sp ≤ limF gr) (hno : limF gr - sumF sp < n) :
    Calls Try.prog 14 #[.pointer (some ⟨x, 0, none⟩), .int .u64 n] w fun r w' => r = .returned (.int .i64 12) ∧ w = w' := by
  have l1 := limF_le gr
  have s1 := (sumF_take_le sp hs 0).1
  have s0 : 0 ≤ sumF sp := by have := sumF_take_le sp hs sp.length; rw [List.take_length] at this; exact this.2
  have LC := Lib.hid (rLimit_any x G gc gr _ w h.blk h.rdG hg hgl)
  have SC := Lib.hid (rSpent_any x S sc sp _ w h.blk h.rdS hs hsl (by omega))
  generalize limF gr = L at *
  generalize sumF sp = M at *
  have hwr : IntKind.u64.wrap (L - M) = L - M := IntWalk.u64_in _ (by omega)
  clear h
  go_enter Try.func14, Try.ntmps14
  go_wp2_with fail
  refine LC.out.mono ?_
  rintro e w3 ⟨rfl, rfl⟩
  go_wp2_with fail
  refine SC.out.mono ?_
  rintro e w3 ⟨rfl, rfl⟩
  go_wp2_with fail
  go_ret
  exact ⟨rfl, rfl⟩
theorem tyne : 30 ≠ 22 := by decide
theorem ownV_set {w : World} {base n : Nat} {A : Option Addr} {c : Nat} {xs : List Value} {x : Nat} {cur : Array Value} (h : OwnV w base 22 1 A c n xs) (hb : Blk w x 30 cur) (j : Nat) (u : Value) : OwnV (w.setCell ⟨x, j, none⟩ u) base 22 1 A c n xs :=
  OwnV.grown h (gb_set (gb_refl _ _) (p := ⟨x, j, none⟩) rfl u) fun g cur' hg he => by
    injection he with he
    subst he
    exact Blk.ne_ hb hg tyne rfl
/-- A row grew; the purse's own block stands. -/
theorem pu_blk {w w4 : World} {x : Nat} {cur : Array Value} {o : Obj} {row : Option Nat} (hb : Blk w x 30 cur) (hg : (w.alloc o).grownBy w4 row) (hr : row ≠ some x) : Blk w4 x 30 cur :=
  (hb.alloc o).grown hg (Ne.symm hr)
theorem kept_row {w w4 : World} {base n : Nat} {A : Option Addr} {c x j : Nat} {xs : List Value} {o : Obj} {u : Value} (ho : OwnV w base 22 1 A c n xs) (hg : (w.alloc o).grownBy w4 (Value.slice A n c).ownBlock) : KeptO w (w4.setCell ⟨x, j, none⟩ u) x := by
  intro g t cur ht hx hb
  exact ((hb.alloc o).grown hg (Ne.symm (ho.other (Ne.symm ht) g cur hb))).grown (gb_set (gb_refl _ _) (p := ⟨x, j, none⟩) rfl u) (by simpa using hx)
theorem rpu_spent {w w4 : World} {base x : Nat} {G S A2 : Option Addr} {gc sc c2 : Nat} {gr sp : List Int} {n : Int} {o : Obj} (h : RPu w base x G gc gr S sc sp)
    (hown : OwnV w4 base 22 1 A2 c2 (sp.length + 1) (IV .u64 sp ++ [.int .u64 n])) (hg : (w.alloc o).grownBy w4 (Value.slice S sp.length sc).ownBlock)
    (hrow : (Value.slice A2 (sp.length + 1) c2).ownBlock = (Value.slice S sp.length sc).ownBlock ∨ (Value.slice A2 (sp.length + 1) c2).ownBlock = some (w.alloc o).heap.size) :
    RPu (w4.setCell ⟨x, 1, none⟩ (.slice A2 (sp.length + 1) c2)) base x G gc gr A2 c2 (sp ++ [n]) := by
  have k4 := pu_blk h.blk hg (h.os.other tyne.symm x _ h.blk)
  have e1 : (sp ++ [n]).length = sp.length + 1 := by simp
  have e2 : IV .u64 (sp ++ [n]) = IV .u64 sp ++ [.int .u64 n] := by simp [IV]
  refine ⟨?_, ?_, ?_, ?_⟩
  · rw [e1]; exact Blk.set_ k4 1 _
  · refine ownV_set ?_ k4 _ _
    exact (h.og.below ((Below.refl _ _).alloc (Nat.le_refl _) o)).apart hg h.ap
  · rw [e1, e2]; exact ownV_set hown k4 _ _
  · intro k hk he
    rw [e1] at he
    rcases hrow with hr | hr
    · rw [hr] at he
      exact h.ap k hk he
    · rw [hr] at he
      injection he with he
      have := h.og.row_lt hk
      simp at he
      omega
theorem rSpend_yes (base x : Nat) (G : Option Addr) (gc : Nat) (gr : List Int) (S : Option Addr) (sc : Nat) (sp : List Int) (n : Int) (w : World) (h : RPu w base x G gc gr S sc sp) (hg : WF .u64 gr) (hgl : gr.length ≤ 1000)
    (hs : ∀ y ∈ sp, 0 ≤ y) (hsl : sp.length ≤ 1000) (hle : sumF sp ≤ limF gr) (hno : n ≤ limF gr - sumF sp) (hbase : base ≤ w.heap.size) (hx : base ≤ x) :
    Calls Try.prog 14 #[.pointer (some ⟨x, 0, none⟩), .int .u64 n] w fun r w' => r = .returned (.int .i64 0) ∧ (∃ S' sc', RPu w' base x G gc gr S' sc' (sp ++ [n])) ∧ KeptO w w' x ∧ Below base w w' := by
  have l1 := limF_le gr
  have s1 := (sumF_take_le sp hs 0).1
  have s0 : 0 ≤ sumF sp := by have := sumF_take_le sp hs sp.length; rw [List.take_length] at this; exact this.2
  have LC := Lib.hid (rLimit_any x G gc gr _ w h.blk h.rdG hg hgl)
  have SC := Lib.hid (rSpent_any x S sc sp _ w h.blk h.rdS hs hsl (by omega))
  generalize limF gr = L at *
  generalize sumF sp = M at *
  have hwr : IntKind.u64.wrap (L - M) = L - M := IntWalk.u64_in _ (by omega)
  have hd : decide (L - M < n) = false := by simp; omega
  have c1 := h.blk.cell 1
  have f1 := h.blk.frozen 1
  have zx := h.blk.lt
  simp at c1
  have H := Lib.hid h
  clear h
  go_enter Try.func14, Try.ntmps14
  go_wp2_with fail
  refine LC.out.mono ?_
  rintro e w3 ⟨rfl, rfl⟩
  go_wp2_with fail
  refine SC.out.mono ?_
  rintro e w3 ⟨rfl, rfl⟩
  go_wp2_with (at_builtin; go_must (refine wpList_appV2 rfl (.tmp 18) (.tmp 20) 28 22 1 8 (.int .u64 0) rfl Try.underlying28 info_u64 rfl (by omega) base (n := sp.length) (m := 1) (xs := IV .u64 sp) (news := [.int .u64 n]) (d := 1) rfl rfl (H.out.os.below ((Below.refl _ _).alloc (Nat.le_refl _) _)) (reads_one w 22 _ 0) (by simp [Value.oneCell']) (by unfold maxLen; omega) (by omega) (by simp; omega) ?_); intro A2 c2 w4 hown hg hb hrow; have k4 := pu_blk H.out.blk hg (H.out.os.other tyne.symm x _ H.out.blk); have e4 := k4.cell 1; have f4 := k4.frozen 1; have z4 := k4.lt)
  have R := rpu_spent H.out hown hg hrow
  have KO := kept_row (x := x) (j := 1) (u := .slice A2 (sp.length + 1) c2) H.out.os hg
  have BB := ((Below.refl base w).alloc hbase (.cells #[.int .u64 n] 22)).trans hb
  go_ret
  exact ⟨rfl, ⟨_, _, R⟩, KO, BB.setCell hx _⟩
end Go.Proofs.Ytgddlamfjjdlfaa
