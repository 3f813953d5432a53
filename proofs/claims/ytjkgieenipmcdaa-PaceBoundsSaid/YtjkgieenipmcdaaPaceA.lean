/-
  The clock: Sample, Told, Wait, Lost.
-/
import Derived.Test.YtjkgieenipmcdaaPaceSpec
import Derived.Laws.MathBits
namespace Go.Proofs.Ytjkgieenipmcdaa
open Go.RowKit
set_option linter.unusedVariables false

theorem gb_refl (w : World) (row : Option Nat) : w.grownBy w row := World.grownBy.refl w row
theorem gb_below {a w : World} (h : Below a.heap.size a w) (row : Option Nat) : a.grownBy w row := ⟨h.os, h.tape, h.output, h.size, fun i hi _ => h.block i hi⟩
theorem gb_then {a b c : World} {row : Option Nat} (h : a.grownBy b row) (k : b.grownBy c row) : a.grownBy c row :=
  ⟨k.os.trans h.os, k.tape.trans h.tape, k.output.trans h.output, Nat.le_trans h.size k.size, fun i hi hne => (k.block i (Nat.lt_of_lt_of_le hi h.size) hne).trans (h.block i hi hne)⟩
theorem gb_set {a w : World} {g : Nat} (h : a.grownBy w (some g)) {p : Addr} (hp : p.block = g) (u : Value) : a.grownBy (w.setCell p u) (some g) :=
  ⟨h.os, h.tape, h.output, by simpa [World.setCell] using h.size, fun i hi hne => (Below.heap_setCell w p u i (by rintro rfl; exact hne (by rw [hp]))).trans (h.block i hi hne)⟩

theorem results_tmp4 {fn : Func} {t u v x : Tmp} (h : fn.results = #[.tmp t, .tmp u, .tmp v, .tmp x]) (tmps : Array Value) (P : Program) (w : World) :
    (results fn tmps).run P w = .ok (.tuple #[tmps.getD t undef, tmps.getD u undef, tmps.getD v undef, tmps.getD x undef]) w := by
  simp [results, h]

def CV (c : CK) : Array Value := #[.int .u64 c.la, .int .u64 c.le, .int .u64 c.sm, .int .u64 c.va, .bool c.sp]
def Clk (w : World) (g : Nat) (c : CK) : Prop := Blk w g 62 (CV c)

theorem distance_any (a b : Int) (w : World) (ha : 0 ≤ a) (ha1 : a < 18446744073709551616) (hb : 0 ≤ b) (hb1 : b < 18446744073709551616) :
    Calls Try.prog 26 #[.int .u64 a, .int .u64 b] w fun r w' => r = .returned (.int .u64 (max a b - min a b)) ∧ w = w' := by
  go_enter Try.func26, Try.ntmps26
  go_wp2
  all_goals (
    go_ret
    exact ⟨congrArg (fun x => Ending.returned (Value.int .u64 x)) (show _ = _ by omega), rfl⟩)

theorem NewClock_any (w : World) : Calls Try.prog 9 #[] w fun r w' => ∃ g, r = .returned (.pointer (some ⟨g, 0, none⟩)) ∧ Clk w' g ck0 ∧ w.heap.size ≤ g ∧ Below w.heap.size w w' := by
  go_enter Try.func9, Try.ntmps9
  go_wp2
  go_ret
  exact ⟨_, rfl, Blk.new w _ _, Nat.le_refl _, (Below.refl _ _).alloc (Nat.le_refl _) _⟩

theorem Clk.c0 {w : World} {g : Nat} {c : CK} (h : Clk w g c) : w.cell? ⟨g, 0, none⟩ = some (.int .u64 c.la) := Blk.cell h 0
theorem Clk.c1 {w : World} {g : Nat} {c : CK} (h : Clk w g c) : w.cell? ⟨g, 1, none⟩ = some (.int .u64 c.le) := Blk.cell h 1
theorem Clk.c2 {w : World} {g : Nat} {c : CK} (h : Clk w g c) : w.cell? ⟨g, 2, none⟩ = some (.int .u64 c.sm) := Blk.cell h 2
theorem Clk.c3 {w : World} {g : Nat} {c : CK} (h : Clk w g c) : w.cell? ⟨g, 3, none⟩ = some (.int .u64 c.va) := Blk.cell h 3
theorem Clk.c4 {w : World} {g : Nat} {c : CK} (h : Clk w g c) : w.cell? ⟨g, 4, none⟩ = some (.bool c.sp) := Blk.cell h 4

theorem Told_clock (g : Nat) (c : CK) (w : World) (h : Clk w g c) :
    Calls Try.prog 12 #[.pointer (some ⟨g, 0, none⟩)] w fun r w' => r = .returned (.tuple #[.int .u64 c.la, .int .u64 c.le, .int .u64 c.sm, .int .u64 c.va]) ∧ ∃ k, w' = w.drewN k := by
  have c0 := h.c0
  have c1 := h.c1
  have c2 := h.c2
  have c3 := h.c3
  clear h
  go_enter Try.func12, Try.ntmps12
  go_wp2
  go_region
  go_wp2
  exact bodyPost_ret (results_tmp4 rfl _ _ _) rfl ⟨rfl, _, rfl⟩
theorem Lost_clock (g : Nat) (c : CK) (w : World) (h : Clk w g c) (ok : CkOk c) :
    Calls Try.prog 15 #[.pointer (some ⟨g, 0, none⟩)] w fun r w' => r = .returned (.int .u64 (ckL c)) ∧ ∃ k, w' = w.drewN k := by
  have c0 := h.c0
  have c2 := h.c2
  clear h
  obtain ⟨⟨p0, p1⟩, _, ⟨p2, p3⟩, _⟩ := ok
  unfold ckL
  generalize c.la = A at *
  generalize c.sm = B at *
  go_enter Try.func15, Try.ntmps15
  go_wp2
  go_region
  all_goals go_wp2
  all_goals (
    go_ret
    exact ⟨congrArg (fun x => Ending.returned (Value.int .u64 x)) (show _ = _ by omega), _, rfl⟩)

theorem wait_fin {S S' R : Int} {n : Nat} (h : S = S') (hR : R = S' * 2 ^ n) (hb : 3 ≤ R ∧ R < 18446744073709551616) : IntKind.u64.wrap (S * 2 ^ n) = R := by
  subst h
  rw [← hR]
  exact IntWalk.u64_in _ (by omega)
theorem Wait_clock (g : Nat) (c : CK) (t : Int) (w : World) (h : Clk w g c) (ok : CkOk c) (ht : (Lit.int .i64 t).wf = true) :
    Calls Try.prog 13 #[.pointer (some ⟨g, 0, none⟩), .int .i64 t] w fun r w' => r = .returned (.int .u64 (ckW c t)) ∧ ∃ k, w' = w.drewN k := by
  have c2 := h.c2
  have c3 := h.c3
  have hb := ckW_ok t ok
  obtain ⟨R, hR⟩ : ∃ R, R = ckW c t := ⟨_, rfl⟩
  rw [← hR] at hb ⊢
  have hT : t < 0 ∨ 20 < t ∨ (0 ≤ t ∧ t ≤ 20) := by omega
  have h0 := ckW0_ok ok
  unfold ckW ckW0 at hR
  unfold ckW0 at h0
  clear h
  obtain ⟨_, _, ⟨p0, p1⟩, ⟨p2, p3⟩⟩ := ok
  generalize c.sm = A at *
  generalize c.va = B at *
  rcases hT with hT | hT | hT
  · have e : trN t = 0 := by unfold trN; omega
    rw [e] at hR
    have HR := Lib.hid hR
    clear hR e
    go_enter Try.func13, Try.ntmps13
    go_wp2
    go_region
    all_goals go_wp2
    all_goals (
      go_ret
      exact ⟨congrArg (fun x => Ending.returned (Value.int .u64 x)) (show _ = _ by first | exact wait_fin (by omega) HR.out hb | (have := HR.out; omega) | (have := HR.out; rw [IntWalk.u64_in _ (by omega)]; omega)), _, rfl⟩)
  · have e : trN t = 20 := by unfold trN; omega
    rw [e] at hR
    have HR := Lib.hid hR
    clear hR e
    go_enter Try.func13, Try.ntmps13
    go_wp2
    go_region
    all_goals go_wp2
    all_goals (
      go_ret
      exact ⟨congrArg (fun x => Ending.returned (Value.int .u64 x)) (show _ = _ by first | exact wait_fin (by omega) HR.out hb | (have := HR.out; omega) | (have := HR.out; rw [IntWalk.u64_in _ (by omega)]; omega)), _, rfl⟩)
  · obtain ⟨n, rfl⟩ := Int.eq_ofNat_of_zero_le (show 0 ≤ t by omega)
    have e : trN (n : Int) = n := by unfold trN; omega
    rw [e] at hR
    have HR := Lib.hid hR
    clear hR e
    go_enter Try.func13, Try.ntmps13
    go_wp2
    go_region
    all_goals go_wp2
    all_goals (
      go_ret
      exact ⟨congrArg (fun x => Ending.returned (Value.int .u64 x)) (show _ = _ by first | exact wait_fin (by omega) HR.out hb | (have := HR.out; omega) | (have := HR.out; rw [IntWalk.u64_in _ (by omega)]; omega)), _, rfl⟩)
end Go.Proofs.Ytjkgieenipmcdaa
