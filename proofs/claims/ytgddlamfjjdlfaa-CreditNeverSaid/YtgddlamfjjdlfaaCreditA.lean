/-
  The purse and the till: every method, nil ones too; and what the laws ask first.
-/
import Derived.Test.YtgddlamfjjdlfaaCreditSpec
import Derived.StillTailTactics
import Derived.Deep.QuietTactic
import Derived.BigQuiet
namespace Go.Proofs.Ytgddlamfjjdlfaa
open Go.RowKit
set_option linter.unusedVariables false

theorem gb_refl (w : World) (row : Option Nat) : w.grownBy w row := World.grownBy.refl w row
theorem gb_then {a b c : World} {row : Option Nat} (h : a.grownBy b row) (k : b.grownBy c row) : a.grownBy c row :=
  ⟨k.os.trans h.os, k.tape.trans h.tape, k.output.trans h.output, Nat.le_trans h.size k.size, fun i hi hne => (k.block i (Nat.lt_of_lt_of_le hi h.size) hne).trans (h.block i hi hne)⟩
theorem gb_set {a w : World} {g : Nat} (h : a.grownBy w (some g)) {p : Addr} (hp : p.block = g) (u : Value) : a.grownBy (w.setCell p u) (some g) :=
  ⟨h.os, h.tape, h.output, by simpa [World.setCell] using h.size, fun i hi hne => (Below.heap_setCell w p u i (by rintro rfl; exact hne (by rw [hp]))).trans (h.block i hi hne)⟩
theorem gb_drewN {a w : World} {row : Option Nat} (h : a.grownBy w row) (k : Nat) : a.grownBy (w.drewN k) row := ⟨h.os, h.tape, h.output, h.size, h.block⟩
theorem below_gb {B : Nat} {a w w' : World} {g : Nat} (h : Below B a w) (k : w.grownBy w' (some g)) (hg : B ≤ g) (hB : B ≤ w.heap.size) : Below B a w' :=
  ⟨k.os.trans h.os, k.tape.trans h.tape, k.output.trans h.output, Nat.le_trans h.size k.size, fun i hi => (k.block i (by omega) (by intro e; injection e with e; omega)).trans (h.block i hi)⟩
theorem below_drewN {B : Nat} {a w : World} (h : Below B a w) (k : Nat) : Below B a (w.drewN k) := ⟨h.os, h.tape, h.output, h.size, h.block⟩
theorem results_tmp2 {fn : Func} {t u : Tmp} (h : fn.results = #[.tmp t, .tmp u]) (tmps : Array Value) (P : Program) (w : World) :
    (results fn tmps).run P w = .ok (.tuple #[tmps.getD t undef, tmps.getD u undef]) w := by
  simp [results, h]
theorem results_tmp3' {fn : Func} {t u v : Tmp} (h : fn.results = #[.tmp t, .tmp u, .tmp v]) (tmps : Array Value) (P : Program) (w : World) :
    (results fn tmps).run P w = .ok (.tuple #[tmps.getD t undef, tmps.getD u undef, tmps.getD v undef]) w := by
  simp [results, h]

theorem bounded_any (n : Int) (w : World) (h0 : 0 ≤ n) : Calls Try.prog 26 #[.int .u64 n] w fun r w' => r = .returned (.int .u64 (topN n)) ∧ w = w' := by
  unfold topN
  go_enter Try.func26, Try.ntmps26
  go_wp2
  all_goals (
    go_ret
    exact ⟨congrArg (fun x => Ending.returned (Value.int .u64 x)) (show _ = _ by omega), rfl⟩)

theorem bounded_q (n : Int) (w : World) (h0 : 0 ≤ n) : Calls Try.prog 26 #[.int .u64 n] w fun r w' => r = .returned (.int .u64 (topN n)) ∧ ∃ k, w' = w.drewN k :=
  (bounded_any n w h0).mono fun r w' h => ⟨h.1, 0, h.2.symm⟩
def PUV (p : PU) : Array Value := #[.int .u64 p.li, .int .u64 p.sp]
def Pur (w : World) (g : Nat) (p : PU) : Prop := Blk w g 58 (PUV p)
theorem Pur.c0 {w : World} {g : Nat} {p : PU} (h : Pur w g p) : w.cell? ⟨g, 0, none⟩ = some (.int .u64 p.li) := Blk.cell h 0
theorem Pur.c1 {w : World} {g : Nat} {p : PU} (h : Pur w g p) : w.cell? ⟨g, 1, none⟩ = some (.int .u64 p.sp) := Blk.cell h 1
theorem Pur.lt {w : World} {g : Nat} {p : PU} (h : Pur w g p) : g < w.heap.size := Blk.lt h
theorem Pur.below {w w' : World} {g B : Nat} {p : PU} (h : Pur w g p) (hb : Below B w w') (hg : g < B) : Pur w' g p := Blk.below h hb hg
theorem Pur.drewN {w : World} {g : Nat} {p : PU} (h : Pur w g p) (k : Nat) : Pur (w.drewN k) g p := h
theorem pur_gb {w w' : World} {g h : Nat} {p : PU} (a : Pur w g p) (b : w.grownBy w' (some h)) (hne : g ≠ h) : Pur w' g p := Blk.grown a b (by simpa using hne)

theorem NewPurse_any (n : Int) (w : World) (h0 : 0 ≤ n) : Calls Try.prog 9 #[.int .u64 n] w fun r w' => ∃ g, r = .returned (.pointer (some ⟨g, 0, none⟩)) ∧ Pur w' g (puN n) ∧ w.heap.size ≤ g ∧ Below w.heap.size w w' := by
  unfold puN
  have HB := fun W => bounded_any n W h0
  generalize topN n = L at *
  go_enter Try.func9, Try.ntmps9
  go_wp2_with fail
  refine (HB _).mono ?_
  rintro e w' ⟨rfl, rfl⟩
  go_wp2_with fail
  go_ret
  exact ⟨_, rfl, Blk.new w _ _, Nat.le_refl _, (Below.refl _ _).alloc (Nat.le_refl _) _⟩
theorem Grant_nil (n : Int) (w : World) (h0 : 0 ≤ n) : Calls Try.prog 12 #[.pointer none, .int .u64 n] w fun r w' => r = .returned (.bool false) ∧ w = w' := by
  have HB := fun W => bounded_any n W h0
  generalize topN n = L at *
  go_enter Try.func12, Try.ntmps12
  go_wp2_with fail
  refine (HB _).mono ?_
  rintro e w' ⟨rfl, rfl⟩
  go_wp2_with fail
  go_ret
  exact ⟨rfl, rfl⟩
theorem Grant_any (g : Nat) (p : PU) (n : Int) (w : World) (h : Pur w g p) (h0 : 0 ≤ n) (ok : PuOk p) :
    Calls Try.prog 12 #[.pointer (some ⟨g, 0, none⟩), .int .u64 n] w fun r w' => r = .returned (.bool (pGrant p n).2) ∧ Pur w' g (pGrant p n).1 ∧ w.grownBy w' (some g) := by
  have c0 := h.c0
  have f0 := Blk.frozen h 0
  have HB := fun W => bounded_any n W h0
  have hL := topN_ok h0
  unfold pGrant
  generalize topN n = L at *
  obtain ⟨li, sp⟩ := p
  simp only at *
  have H := Lib.hid h
  by_cases hl : L ≤ li
  · rw [if_pos hl]
    clear h
    go_enter Try.func12, Try.ntmps12
    go_wp2_with fail
    refine (HB _).mono ?_
    rintro e w' ⟨rfl, rfl⟩
    go_wp2_with fail
    go_ret
    exact ⟨rfl, H.out, gb_refl _ _⟩
  · rw [if_neg hl]
    have hd : decide (L ≤ li) = false := by simpa using hl
    clear h
    go_enter Try.func12, Try.ntmps12
    go_wp2_with fail
    refine (HB _).mono ?_
    rintro e w' ⟨rfl, rfl⟩
    go_wp2_with fail
    go_ret
    exact ⟨rfl, Blk.set_ H.out 0 _, gb_set (gb_refl _ _) rfl _⟩
theorem PTold_nil (w : World) : Calls Try.prog 15 #[.pointer none] w fun r w' => r = .returned (.tuple #[.int .u64 0, .int .u64 0]) ∧ w = w' := by
  go_enter Try.func15, Try.ntmps15
  go_wp2_with fail
  exact bodyPost_ret (results_tmp2 rfl _ _ _) rfl ⟨rfl, rfl⟩
theorem PTold_any (g : Nat) (p : PU) (w : World) (h : Pur w g p) :
    Calls Try.prog 15 #[.pointer (some ⟨g, 0, none⟩)] w fun r w' => r = .returned (.tuple #[.int .u64 p.li, .int .u64 p.sp]) ∧ ∃ k, w' = w.drewN k := by
  have c0 := h.c0
  have c1 := h.c1
  clear h
  go_enter Try.func15, Try.ntmps15
  go_wp2_with fail
  go_region
  go_wp2
  exact bodyPost_ret (results_tmp2 rfl _ _ _) rfl ⟨rfl, _, rfl⟩
theorem PLeft_nil (w : World) : Calls Try.prog 17 #[.pointer none] w fun r w' => r = .returned (.int .u64 0) ∧ w = w' := by
  go_enter Try.func17, Try.ntmps17
  go_wp2_with fail
  go_ret
  exact ⟨rfl, rfl⟩
theorem PLeft_any (g : Nat) (p : PU) (w : World) (h : Pur w g p) (ok : PuOk p) :
    Calls Try.prog 17 #[.pointer (some ⟨g, 0, none⟩)] w fun r w' => r = .returned (.int .u64 (p.li - p.sp)) ∧ ∃ k, w' = w.drewN k := by
  have c0 := h.c0
  have c1 := h.c1
  obtain ⟨o0, o1, o2⟩ := ok
  clear h
  obtain ⟨li, sp⟩ := p
  simp only at *
  go_enter Try.func17, Try.ntmps17
  go_wp2_with fail
  go_region
  go_wp2
  go_ret
  exact ⟨rfl, _, rfl⟩
theorem PSpend_nil (n : Int) (w : World) : Calls Try.prog 13 #[.pointer none, .int .u64 n] w fun r w' => r = .returned (.int .i64 6) ∧ w = w' := by
  go_enter Try.func13, Try.ntmps13
  go_wp2_with fail
  go_ret
  exact ⟨rfl, rfl⟩
theorem PSpend_any (g : Nat) (p : PU) (n : Int) (w : World) (h : Pur w g p) (h0 : 0 ≤ n) (ok : PuOk p) :
    Calls Try.prog 13 #[.pointer (some ⟨g, 0, none⟩), .int .u64 n] w fun r w' => r = .returned (.int .i64 (pSpend p n).2) ∧ Pur w' g (pSpend p n).1 ∧ w.grownBy w' (some g) := by
  have HL := PLeft_any g p w h ok
  obtain ⟨o0, o1, o2⟩ := ok
  unfold pSpend
  obtain ⟨li, sp⟩ := p
  simp only at *
  have H := Lib.hid h
  by_cases hl : li - sp < n
  · rw [if_pos hl]
    clear h
    go_enter Try.func13, Try.ntmps13
    go_wp2_with fail
    refine HL.mono ?_
    rintro e w' ⟨rfl, k, rfl⟩
    go_wp2_with fail
    go_ret
    exact ⟨rfl, H.out.drewN _, gb_drewN (gb_refl _ _) _⟩
  · rw [if_neg hl]
    have hd : decide (li - sp < n) = false := by simpa using hl
    clear h
    go_enter Try.func13, Try.ntmps13
    go_wp2_with fail
    refine HL.mono ?_
    rintro e w' ⟨rfl, k, rfl⟩
    have c1 := (H.out.drewN k).c1
    have f1 := Blk.frozen (H.out.drewN k) 1
    simp only at *
    go_wp2_with fail
    go_ret
    exact ⟨rfl, Blk.set_ (H.out.drewN _) 1 _, gb_set (gb_drewN (gb_refl _ _) _) rfl _⟩
def TLV (t : TL) : Array Value := #[.int .u64 t.wi, .int .u64 t.li, .int .u64 t.ca, .int .u64 t.re]
def Til (w : World) (g : Nat) (t : TL) : Prop := Blk w g 60 (TLV t)
theorem Til.c0 {w : World} {g : Nat} {p : TL} (h : Til w g p) : w.cell? ⟨g, 0, none⟩ = some (.int .u64 p.wi) := Blk.cell h 0
theorem Til.c1 {w : World} {g : Nat} {p : TL} (h : Til w g p) : w.cell? ⟨g, 1, none⟩ = some (.int .u64 p.li) := Blk.cell h 1
theorem Til.c2 {w : World} {g : Nat} {p : TL} (h : Til w g p) : w.cell? ⟨g, 2, none⟩ = some (.int .u64 p.ca) := Blk.cell h 2
theorem Til.c3 {w : World} {g : Nat} {p : TL} (h : Til w g p) : w.cell? ⟨g, 3, none⟩ = some (.int .u64 p.re) := Blk.cell h 3
theorem Til.lt {w : World} {g : Nat} {p : TL} (h : Til w g p) : g < w.heap.size := Blk.lt h
theorem Til.below {w w' : World} {g B : Nat} {p : TL} (h : Til w g p) (hb : Below B w w') (hg : g < B) : Til w' g p := Blk.below h hb hg
theorem Til.drewN {w : World} {g : Nat} {p : TL} (h : Til w g p) (k : Nat) : Til (w.drewN k) g p := h
theorem til_gb {w w' : World} {g h : Nat} {p : TL} (a : Til w g p) (b : w.grownBy w' (some h)) (hne : g ≠ h) : Til w' g p := Blk.grown a b (by simpa using hne)

theorem NewTill_any (n : Int) (w : World) (h0 : 0 ≤ n) : Calls Try.prog 18 #[.int .u64 n] w fun r w' => ∃ g, r = .returned (.pointer (some ⟨g, 0, none⟩)) ∧ Til w' g (tlN n) ∧ w.heap.size ≤ g ∧ Below w.heap.size w w' := by
  unfold tlN
  have HB := fun W => bounded_any n W h0
  generalize topN n = L at *
  go_enter Try.func18, Try.ntmps18
  go_wp2_with fail
  refine (HB _).mono ?_
  rintro e w' ⟨rfl, rfl⟩
  go_wp2_with fail
  go_ret
  exact ⟨_, rfl, Blk.new w _ _, Nat.le_refl _, (Below.refl _ _).alloc (Nat.le_refl _) _⟩
theorem TTold_any (g : Nat) (p : TL) (w : World) (h : Til w g p) :
    Calls Try.prog 25 #[.pointer (some ⟨g, 0, none⟩)] w fun r w' => r = .returned (.tuple #[.int .u64 p.li, .int .u64 p.ca, .int .u64 p.re]) ∧ ∃ k, w' = w.drewN k := by
  have c0 := h.c1
  have c1 := h.c2
  have c2 := h.c3
  clear h
  go_enter Try.func25, Try.ntmps25
  go_wp2_with fail
  go_region
  go_wp2
  exact bodyPost_ret (results_tmp3' rfl _ _ _) rfl ⟨rfl, _, rfl⟩
theorem TTold_nil (w : World) : Calls Try.prog 25 #[.pointer none] w fun r w' => r = .returned (.tuple #[.int .u64 0, .int .u64 0, .int .u64 0]) ∧ w = w' := by
  go_enter Try.func25, Try.ntmps25
  go_wp2_with fail
  exact bodyPost_ret (results_tmp3' rfl _ _ _) rfl ⟨rfl, rfl⟩
theorem Came_nil (n : Int) (w : World) : Calls Try.prog 19 #[.pointer none, .int .u64 n] w fun r w' => r = .returned (.int .i64 6) ∧ w = w' := by
  go_enter Try.func19, Try.ntmps19
  go_wp2_with fail
  go_ret
  exact ⟨rfl, rfl⟩
theorem Came_any (g : Nat) (p : TL) (n : Int) (w : World) (h : Til w g p) (h0 : 0 ≤ n) (ok : TlOk p) :
    Calls Try.prog 19 #[.pointer (some ⟨g, 0, none⟩), .int .u64 n] w fun r w' => r = .returned (.int .i64 (tCame p n).2) ∧ Til w' g (tCame p n).1 ∧ w.grownBy w' (some g) := by
  have c1 := h.c1
  have c2 := h.c2
  have f2 := Blk.frozen h 2
  unfold tCame
  obtain ⟨wi, li, ca, re⟩ := p
  simp only at *
  have H := Lib.hid h
  by_cases hl : li < n
  · rw [if_pos hl]
    clear h
    go_enter Try.func19, Try.ntmps19
    go_wp2_with fail
    go_ret
    exact ⟨rfl, H.out, gb_refl _ _⟩
  · rw [if_neg hl]
    have hd : decide (li < n) = false := by simpa using hl
    obtain ⟨Z, hZ⟩ : ∃ Z, Z = max ca n := ⟨_, rfl⟩
    have Z1 : (if n < ca then ca else n) = Z := by rw [hZ]; split <;> omega
    have Z2 : (if ca < n then n else ca) = Z := by rw [hZ]; split <;> omega
    have hz : ¬ Z < 0 := by have : 0 ≤ n := h0; omega
    rw [← hZ]
    clear h hZ
    go_enter Try.func19, Try.ntmps19
    go_wp2_with fail
    go_ret
    exact ⟨rfl, Blk.set_ H.out 2 _, gb_set (gb_refl _ _) rfl _⟩
theorem Took_nil (n : Int) (w : World) : Calls Try.prog 21 #[.pointer none, .int .u64 n] w fun r w' => r = .returned (.int .i64 6) ∧ ∃ k, w' = w.drewN k := by
  go_enter Try.func21, Try.ntmps21
  go_wp2_with fail
  go_quiet (fail)
  go_wp2_with fail
  go_ret
  exact ⟨rfl, _, rfl⟩
theorem Took_any (g : Nat) (p : TL) (n : Int) (w : World) (h : Til w g p) (h0 : 0 ≤ n) (ok : TlOk p) :
    Calls Try.prog 21 #[.pointer (some ⟨g, 0, none⟩), .int .u64 n] w fun r w' => r = .returned (.int .i64 (tTook p n).2) ∧ Til w' g (tTook p n).1 ∧ w.grownBy w' (some g) := by
  have c2 := h.c2
  have c3 := h.c3
  have f3 := Blk.frozen h 3
  obtain ⟨o0, o1, o2, o3, o4, o5⟩ := ok
  unfold tTook
  obtain ⟨wi, li, ca, re⟩ := p
  simp only at *
  have H := Lib.hid h
  have hw : IntKind.u64.wrap (ca - re) = ca - re := IntWalk.u64_in _ (by omega)
  by_cases hl : ca - re < n
  · rw [if_pos hl]
    clear h
    have hd : decide (ca - re < n) = true := by simpa using hl
    go_enter Try.func21, Try.ntmps21
    go_wp2_with fail
    go_quiet (fail)
    go_wp2_with fail
    go_ret
    exact ⟨rfl, H.out.drewN _, gb_drewN (gb_refl _ _) _⟩
  · rw [if_neg hl]
    have hd : decide (ca - re < n) = false := by simpa using hl
    clear h
    go_enter Try.func21, Try.ntmps21
    go_wp2_with fail
    go_quiet (fail)
    have hw2 : IntKind.u64.wrap (re + n) = re + n := IntWalk.u64_in _ (by omega)
    go_wp2_with fail
    go_ret
    exact ⟨rfl, Blk.set_ (H.out.drewN _) 3 _, gb_set (gb_drewN (gb_refl _ _) _) rfl _⟩
theorem News_nil (w : World) : Calls Try.prog 23 #[.pointer none] w fun r w' => r = .returned (.tuple #[.int .u64 0, .bool false]) ∧ w = w' := by
  go_enter Try.func23, Try.ntmps23
  go_wp2_with fail
  exact bodyPost_ret (results_tmp2 rfl _ _ _) rfl ⟨rfl, rfl⟩
theorem News_any (g : Nat) (p : TL) (w : World) (h : Til w g p) (ok : TlOk p) :
    Calls Try.prog 23 #[.pointer (some ⟨g, 0, none⟩)] w fun r w' => r = .returned (.tuple #[.int .u64 (tNews p).2.1, .bool (tNews p).2.2]) ∧ Til w' g (tNews p).1 ∧ w.grownBy w' (some g) := by
  have c0 := h.c0
  have c1 := h.c1
  have c3 := h.c3
  have f1 := Blk.frozen h 1
  obtain ⟨o0, o1, o2, o3, o4, o5⟩ := ok
  have HB := fun W => bounded_q (p.re + p.wi) W (by omega)
  have hT := topN_ok (show 0 ≤ p.re + p.wi by omega)
  unfold tNews
  obtain ⟨wi, li, ca, re⟩ := p
  simp only at *
  have H := Lib.hid h
  clear h
  generalize topN (re + wi) = L at *
  have hw : IntKind.u64.wrap (li - re) = li - re := IntWalk.u64_in _ (by omega)
  have hw2 : IntKind.u64.wrap (re + wi) = re + wi := IntWalk.u64_in _ (by omega)
  obtain ⟨Z, hZ⟩ : ∃ Z, Z = max (wi / 2) 1 := ⟨_, rfl⟩
  have Z1 : (if 1 < wi / 2 then wi / 2 else 1) = Z := by rw [hZ]; split <;> omega
  have Z2 : (if wi / 2 < 1 then 1 else wi / 2) = Z := by rw [hZ]; split <;> omega
  rw [← hZ]
  clear hZ
  by_cases ha : Z ≤ li - re
  · rw [if_pos ha]
    have hd : decide (Z ≤ li - re) = true := by simpa using ha
    go_enter Try.func23, Try.ntmps23
    go_wp2_with fail
    go_region
    go_wp2_with fail
    exact bodyPost_ret (results_tmp2 rfl _ _ _) rfl ⟨rfl, H.out.drewN 1, gb_drewN (gb_refl _ _) 1⟩
  · rw [if_neg ha]
    have hd : decide (Z ≤ li - re) = false := by simpa using ha
    by_cases hb : L ≤ li
    · rw [if_pos hb]
      go_enter Try.func23, Try.ntmps23
      go_wp2_with fail
      go_region
      go_wp2_with fail
      obtain ⟨w1, hw1⟩ : ∃ w1, w1 = w.drew := ⟨_, rfl⟩
      have J : Til w1 g ⟨wi, li, ca, re⟩ := by rw [hw1]; exact H.out.drewN 1
      have B1 : w.grownBy w1 (some g) := by rw [hw1]; exact gb_drewN (gb_refl _ _) 1
      clear c0 c1 c3 f1
      have c0 := J.c0
      have c1 := J.c1
      have c3 := J.c3
      have f1 := Blk.frozen J 1
      simp only at c0 c1 c3
      have HJ := Lib.hid J
      have HB1 := Lib.hid B1
      rw [← hw1]
      clear J B1 hw1
      go_quiet ((go_at_call 26; exact Calls.quiet_of (HB _)))
      go_wp2_with fail
      exact bodyPost_ret (results_tmp2 rfl _ _ _) rfl ⟨rfl, HJ.out.drewN _, gb_drewN HB1.out _⟩
    · rw [if_neg hb]
      have hd2 : decide (L ≤ li) = false := by simpa using hb
      go_enter Try.func23, Try.ntmps23
      go_wp2_with fail
      go_region
      go_wp2_with fail
      obtain ⟨w1, hw1⟩ : ∃ w1, w1 = w.drew := ⟨_, rfl⟩
      have J : Til w1 g ⟨wi, li, ca, re⟩ := by rw [hw1]; exact H.out.drewN 1
      have B1 : w.grownBy w1 (some g) := by rw [hw1]; exact gb_drewN (gb_refl _ _) 1
      clear c0 c1 c3 f1
      have c0 := J.c0
      have c1 := J.c1
      have c3 := J.c3
      have f1 := Blk.frozen J 1
      simp only at c0 c1 c3
      have HJ := Lib.hid J
      have HB1 := Lib.hid B1
      rw [← hw1]
      clear J B1 hw1
      go_quiet ((go_at_call 26; exact Calls.quiet_of (HB _)))
      go_wp2_with fail
      exact bodyPost_ret (results_tmp2 rfl _ _ _) rfl ⟨rfl, Blk.set_ (HJ.out.drewN _) 1 _, gb_set (gb_drewN HB1.out _) rfl _⟩

def tA : TL := (tCame (tlN 100) 60).1
def tB : TL := (tTook tA 60).1
def tC : TL := (tNews tB).1
theorem tA_ok : TlOk tA := tCame_ok (tlN_ok (by omega))
theorem tB_ok : TlOk tB := tTook_ok tA_ok (by omega)
theorem tC_ok : TlOk tC := tNews_ok tB_ok
theorem awake11_any (w : World) : Calls Try.prog 8 #[] w fun r w' => r = .returned (.bool true) ∧ Below w.heap.size w w' := by
  go_enter Try.func8, Try.ntmps8
  go_wp2_with fail
  refine (NewTill_any 100 _ (by omega)).mono ?_
  rintro e w1 ⟨g, rfl, k0, l0, b0⟩
  go_wp2_with fail
  refine (Came_any g _ 60 _ k0 (by omega) (tlN_ok (by omega))).mono ?_
  rintro e w2 ⟨rfl, k1, g1⟩
  have b1 := below_gb b0 g1 l0 b0.size
  rw [show (tCame (tlN 100) 60).2 = 0 by decide]
  clear b0 g1 k0
  go_wp2_with fail
  refine (Took_any g tA 60 _ k1 (by omega) tA_ok).mono ?_
  rintro e w3 ⟨rfl, k2, g2⟩
  have b2 := below_gb b1 g2 l0 b1.size
  rw [show (tTook tA 60).2 = 0 by decide]
  clear b1 g2 k1
  go_wp2_with fail
  refine (News_any g tB _ k2 tB_ok).mono ?_
  rintro e w4 ⟨rfl, k3, g3⟩
  have b3 := below_gb b2 g3 l0 b2.size
  rw [show (tNews tB).2.1 = 160 by decide, show (tNews tB).2.2 = true by decide]
  clear b2 g3 k2
  go_wp2_with fail
  refine (Came_any g tC 161 _ k3 (by omega) tC_ok).mono ?_
  rintro e w5 ⟨rfl, k4, g4⟩
  have b4 := below_gb b3 g4 l0 b3.size
  rw [show (tCame tC 161).2 = 12 by decide]
  clear b3 g4 k3
  go_wp2_with fail
  go_ret
  exact ⟨rfl, b4⟩
end Go.Proofs.Ytgddlamfjjdlfaa
