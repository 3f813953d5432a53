/-
  The clock's Sample.
-/
import Derived.Test.YtjkgieenipmcdaaPaceA
import Derived.Laws.Tables
import Derived.Laws.CopyOwn
import Derived.Deep.RegionWith
namespace Go.Proofs.Ytjkgieenipmcdaa
open Go.RowKit
set_option linter.unusedVariables false

theorem Clk.of {w : World} {g : Nat} {c : CK} {a b s v : Int} (h : Blk w g 62 #[.int .u64 a, .int .u64 b, .int .u64 s, .int .u64 v, .bool true]) (h0 : a = c.la) (h1 : b = c.le) (h2 : s = c.sm) (h3 : v = c.va) (h4 : c.sp = true) : Clk w g c := by
  unfold Clk CV
  rw [← h0, ← h1, ← h2, ← h3, h4]
  exact h
theorem Clk.lt {w : World} {g : Nat} {c : CK} (h : Clk w g c) : g < w.heap.size := Blk.lt h
theorem Clk.drewN {w : World} {g : Nat} {c : CK} (h : Clk w g c) (k : Nat) : Clk (w.drewN k) g c := h
theorem Clk.below {w w' : World} {g B : Nat} {c : CK} (h : Clk w g c) (hb : Below B w w') (hg : g < B) : Clk w' g c := Blk.below h hb hg

theorem Blk.rowP {w : World} {g : Nat} {t : TypeId} {cs : Array Value} (h : Blk w g t cs) (cs' : Array Value) : Blk (w.setRow g cs') g t cs' := by
  unfold Blk at h ⊢
  simp [World.setRow, Array.getElem?_modify, h]
theorem gb_setRow {a w : World} {g : Nat} (h : a.grownBy w (some g)) (cs : Array Value) : a.grownBy (w.setRow g cs) (some g) :=
  ⟨h.os, h.tape, h.output, by simpa using h.size, fun i hi hne => (setRow_other w g i cs (by rintro rfl; exact hne rfl)).trans (h.block i hi hne)⟩
theorem gb_drewN {a w : World} {row : Option Nat} (h : a.grownBy w row) (n : Nat) : a.grownBy (w.drewN n) row := ⟨h.os, h.tape, h.output, h.size, h.block⟩
theorem info_clock : (Try.prog.info? 62).map (·.size) = some 5 := by kernel_rfl

theorem Sample_first (g : Nat) (c : CK) (x d : Int) (w : World) (h : Clk w g c) (hs : c.sp = false) (hx : 0 ≤ x) (hx1 : x < 18446744073709551616) (hd : 0 ≤ d) (hd1 : d < 18446744073709551616) :
    Calls Try.prog 10 #[.pointer (some ⟨g, 0, none⟩), .int .u64 x, .int .u64 d] w fun r w' => r = .returned (.tuple #[]) ∧ Clk w' g (ckS c x d) ∧ w.grownBy w' (some g) := by
  have c4 := h.c4
  rw [hs] at c4
  have H := Lib.hid h
  have e : ckS c x d = ckF x := by unfold ckS; rw [hs]; rfl
  rw [e]
  clear h e hs
  rcases (show x ≤ 1099511627776 ∨ 1099511627776 < x by omega) with h1 | h1 <;> rcases (show d ≤ 1099511627776 ∨ 1099511627776 < d by omega) with h2 | h2
  all_goals
    go_enter Try.func10, Try.ntmps10
    go_wp2_with (refine wpList_store_row rfl 62 (.tmp 25) (.tmp 24) rfl g _ rfl rfl 62 _ H.out info_clock rfl (by simp [Value.oneCell']) ?_)
    exact bodyPost_ret (v := .tuple #[]) (results_none (by rfl) _ _ _) (by rfl) ⟨rfl, Clk.of (Blk.rowP H.out _) (by unfold ckF; simp only; omega) (by unfold ckF; simp only; omega) (by unfold ckF; simp only; omega) (by unfold ckF; simp only; omega) rfl, gb_setRow (gb_refl _ _) _⟩

/-- The sample that counts, in a later one. -/
theorem ckN_of {c : CK} {x d X L D A : Int} (hX : X = min x 1099511627776) (hL : L = min c.le X) (hD : D = min d 1099511627776) (hA : A = if L + D ≤ X then X - D else X) :
    ckN c x d = ⟨X, L, (7 * c.sm + A) / 8, (3 * c.va + (max c.sm A - min c.sm A)) / 4, true⟩ := by
  subst hX hL hD hA
  rfl
/-- The two last stores. -/
theorem smp_end {w w1 : World} {g : Nat} {X L sm va S V : Int} (K1 : Blk w1 g 62 #[.int .u64 X, .int .u64 L, .int .u64 sm, .int .u64 va, .bool true]) (GG : w.grownBy w1 (some g)) :
    Clk ((w1.setCell ⟨g, 3, none⟩ (.int .u64 V)).setCell ⟨g, 2, none⟩ (.int .u64 S)).drew g ⟨X, L, S, V, true⟩ ∧ w.grownBy ((w1.setCell ⟨g, 3, none⟩ (.int .u64 V)).setCell ⟨g, 2, none⟩ (.int .u64 S)).drew (some g) :=
  ⟨Blk.drew (Blk.set_ (Blk.set_ K1 3 _) 2 _), gb_drewN (gb_set (gb_set GG rfl _) rfl _) 1⟩

set_option maxHeartbeats 1600000 in
theorem Sample_next (g : Nat) (c : CK) (x d : Int) (w : World) (h : Clk w g c) (ok : CkOk c) (hs : c.sp = true) (hx : 0 ≤ x) (hx1 : x < 18446744073709551616) (hd : 0 ≤ d) (hd1 : d < 18446744073709551616) :
    Calls Try.prog 10 #[.pointer (some ⟨g, 0, none⟩), .int .u64 x, .int .u64 d] w fun r w' => r = .returned (.tuple #[]) ∧ Clk w' g (ckS c x d) ∧ w.grownBy w' (some g) := by
  have c0 := h.c0
  have c1 := h.c1
  have c2 := h.c2
  have c3 := h.c3
  have c4 := h.c4
  rw [hs] at c4
  have f0 := Blk.frozen h 0
  have f1 := Blk.frozen h 1
  have H := Lib.hid h
  have e : ckS c x d = ckN c x d := by unfold ckS; rw [hs]; rfl
  rw [e]
  clear h e
  unfold CkOk at ok
  obtain ⟨la, le, sm, va, sp⟩ := c
  simp only at *
  subst hs
  obtain ⟨X, hX⟩ : ∃ X, X = min x 1099511627776 := ⟨_, rfl⟩
  obtain ⟨L, hL⟩ : ∃ L, L = min le X := ⟨_, rfl⟩
  obtain ⟨D, hD⟩ : ∃ D, D = min d 1099511627776 := ⟨_, rfl⟩
  obtain ⟨A, hA⟩ : ∃ A, A = if L + D ≤ X then X - D else X := ⟨_, rfl⟩
  rw [ckN_of hX hL hD hA]
  simp only
  have hA01 : 0 ≤ A ∧ A ≤ 1099511627776 := by rw [hA]; split <;> omega
  have X1 : (if x < 1099511627776 then x else 1099511627776) = X := by rw [hX]; split <;> omega
  have X2 : (if 1099511627776 < x then 1099511627776 else x) = X := by rw [hX]; split <;> omega
  have D1 : (if d < 1099511627776 then d else 1099511627776) = D := by rw [hD]; split <;> omega
  have D2 : (if 1099511627776 < d then 1099511627776 else d) = D := by rw [hD]; split <;> omega
  have L1 : (if le < X then le else X) = L := by rw [hL]; split <;> omega
  have L2 : (if X < le then X else le) = L := by rw [hL]; split <;> omega
  have bX : 0 ≤ X ∧ X ≤ 1099511627776 := by omega
  have bL : 0 ≤ L ∧ L ≤ 1099511627776 := by omega
  have bD : 0 ≤ D ∧ D ≤ 1099511627776 := by omega
  clear hX hL hD
  have hAA := Lib.hid hA
  clear hA
  by_cases hle : L + D ≤ X
  · obtain rfl : A = X - D := by rw [hAA.out, if_pos hle]
    go_enter Try.func10, Try.ntmps10
    go_wp2_with fail
    have k1 : Blk ((w.setCell ⟨g, 0, none⟩ (.int .u64 X)).setCell ⟨g, 1, none⟩ (.int .u64 L)) g 62 #[.int .u64 X, .int .u64 L, .int .u64 sm, .int .u64 va, .bool true] := Blk.set_ (Blk.set_ H.out 0 _) 1 _
    have G1 : w.grownBy ((w.setCell ⟨g, 0, none⟩ (.int .u64 X)).setCell ⟨g, 1, none⟩ (.int .u64 L)) (some g) := gb_set (gb_set (gb_refl w (some g)) rfl _) rfl _
    generalize ((w.setCell ⟨g, 0, none⟩ (.int .u64 X)).setCell ⟨g, 1, none⟩ (.int .u64 L)) = w1 at k1 G1 ⊢
    have d2 : w1.cell? ⟨g, 2, none⟩ = some (.int .u64 sm) := Blk.cell k1 2
    have d3 : w1.cell? ⟨g, 3, none⟩ = some (.int .u64 va) := Blk.cell k1 3
    have e2 := Blk.frozen k1 2
    have e3 := Blk.frozen k1 3
    have hlt := Blk.lt k1
    have K1 := Lib.hid k1
    have GG := Lib.hid G1
    have hV : 0 ≤ 3 * va + (max sm (X - D) - min sm (X - D)) ∧ 3 * va + (max sm (X - D) - min sm (X - D)) ≤ 4398046511104 := by omega
    clear k1 G1 c0 c1 c2 c3 c4 f0 f1 X1 X2 L1 L2 D1 D2
    go_region_with (go_at_call 26; refine (distance_any _ _ _ (by omega) (by omega) (by omega) (by omega)).mono ?_; rintro e w' ⟨rfl, rfl⟩)
    all_goals (
      go_wp2_with fail
      exact bodyPost_end (v := .tuple #[]) (results_none (by rfl) _ _ _) (by rfl) ⟨rfl, smp_end K1.out GG.out⟩)
  · obtain rfl : X = A := by rw [hAA.out, if_neg hle]
    go_enter Try.func10, Try.ntmps10
    go_wp2_with fail
    have k1 : Blk ((w.setCell ⟨g, 0, none⟩ (.int .u64 X)).setCell ⟨g, 1, none⟩ (.int .u64 L)) g 62 #[.int .u64 X, .int .u64 L, .int .u64 sm, .int .u64 va, .bool true] := Blk.set_ (Blk.set_ H.out 0 _) 1 _
    have G1 : w.grownBy ((w.setCell ⟨g, 0, none⟩ (.int .u64 X)).setCell ⟨g, 1, none⟩ (.int .u64 L)) (some g) := gb_set (gb_set (gb_refl w (some g)) rfl _) rfl _
    generalize ((w.setCell ⟨g, 0, none⟩ (.int .u64 X)).setCell ⟨g, 1, none⟩ (.int .u64 L)) = w1 at k1 G1 ⊢
    have d2 : w1.cell? ⟨g, 2, none⟩ = some (.int .u64 sm) := Blk.cell k1 2
    have d3 : w1.cell? ⟨g, 3, none⟩ = some (.int .u64 va) := Blk.cell k1 3
    have e2 := Blk.frozen k1 2
    have e3 := Blk.frozen k1 3
    have hlt := Blk.lt k1
    have K1 := Lib.hid k1
    have GG := Lib.hid G1
    have hV : 0 ≤ 3 * va + (max sm (X) - min sm (X)) ∧ 3 * va + (max sm (X) - min sm (X)) ≤ 4398046511104 := by omega
    clear k1 G1 c0 c1 c2 c3 c4 f0 f1 X1 X2 L1 L2 D1 D2
    go_region_with (go_at_call 26; refine (distance_any _ _ _ (by omega) (by omega) (by omega) (by omega)).mono ?_; rintro e w' ⟨rfl, rfl⟩)
    all_goals (
      go_wp2_with fail
      exact bodyPost_end (v := .tuple #[]) (results_none (by rfl) _ _ _) (by rfl) ⟨rfl, smp_end K1.out GG.out⟩)
end Go.Proofs.Ytjkgieenipmcdaa
