/-
  The ledger: New, Next, Acked, Send.
-/
import Derived.Test.YtefhbiocddgijaaLossSpec
import Derived.Test.YtefhbiocddgijaaStepV
import Derived.StillTailTactics
import Derived.Deep.QuietTactic
import Derived.BigQuiet
namespace Go.Proofs.Ytefhbiocddgijaa
open Go.RowKit
set_option linter.unusedVariables false
set_option linter.unusedSimpArgs false

theorem gb_refl (w : World) (row : Option Nat) : w.grownBy w row := World.grownBy.refl w row
theorem gb_then {a b c : World} {row : Option Nat} (h : a.grownBy b row) (k : b.grownBy c row) : a.grownBy c row :=
  ⟨k.os.trans h.os, k.tape.trans h.tape, k.output.trans h.output, Nat.le_trans h.size k.size, fun i hi hne => (k.block i (Nat.lt_of_lt_of_le hi h.size) hne).trans (h.block i hi hne)⟩
theorem gb_set {a w : World} {g : Nat} (h : a.grownBy w (some g)) {p : Addr} (hp : p.block = g) (u : Value) : a.grownBy (w.setCell p u) (some g) :=
  ⟨h.os, h.tape, h.output, by simpa [World.setCell] using h.size, fun i hi hne => (Below.heap_setCell w p u i (by rintro rfl; exact hne (by rw [hp]))).trans (h.block i hi hne)⟩
theorem gb_drewN {a w : World} {row : Option Nat} (h : a.grownBy w row) (k : Nat) : a.grownBy (w.drewN k) row := ⟨h.os, h.tape, h.output, h.size, h.block⟩
theorem below_gb {B : Nat} {a w w' : World} {g : Nat} (h : Below B a w) (k : w.grownBy w' (some g)) (hg : B ≤ g) (hB : B ≤ w.heap.size) : Below B a w' :=
  ⟨k.os.trans h.os, k.tape.trans h.tape, k.output.trans h.output, Nat.le_trans h.size k.size, fun i hi => (k.block i (by omega) (by intro e; injection e with e; omega)).trans (h.block i hi)⟩
theorem below_drewN {B : Nat} {a w : World} (h : Below B a w) (k : Nat) : Below B a (w.drewN k) := ⟨h.os, h.tape, h.output, h.size, h.block⟩
theorem results_tmp2 {fn : Func} {t u : Tmp} (h : fn.results = #[.tmp t, .tmp u]) (tmps : Array Value) (P : Program) (w : World) :
    (results fn tmps).run P w = .ok (.tuple #[tmps.getD t undef, tmps.getD u undef]) w := by
  simp [results, h]
theorem info_pk : (Try.prog.info? 49).map (fun i => (i.zero, i.size, i.bytes)) = some (some (.agg #[.int .u64 0, .int .u64 0, .int .i64 0, .bool false]), 4, 32) := by kernel_rfl
def OwnP (w : World) (base : Nat) (A : Option Addr) (c : Nat) (l : List PK) : Prop := OwnF PkC 4 49 w base A c l
def RdP (w : World) (A : Option Addr) (l : List PK) : Prop := RdF PkC 4 w A l
theorem reads_pk (w : World) (p : PK) (E : TypeId) : Reads (w.alloc (.cells #[.int .u64 p.nu, .int .u64 p.se, .int .i64 p.si, .bool p.aq] E)) (w.alloc (.cells #[.int .u64 p.nu, .int .u64 p.se, .int .i64 p.si, .bool p.aq] E)).heap.size 4 (some ⟨w.heap.size, 0, none⟩) 1 (PkC p) := by
  refine ⟨rfl, fun _ => ⟨_, rfl, by simp, fun j u hu => ?_⟩⟩
  match j, hu with
  | 0, hu => simp [PkC] at hu; subst hu; simp [Addr.add]
  | 1, hu => simp [PkC] at hu; subst hu; simp [Addr.add]
  | 2, hu => simp [PkC] at hu; subst hu; simp [Addr.add]
  | 3, hu => simp [PkC] at hu; subst hu; simp [Addr.add]
/-- The ledger at g. -/
structure Led (w : World) (base g : Nat) (A : Option Addr) (c : Nat) (l : LG) : Prop where
  blk : Blk w g 63 #[.slice A l.op.length c, .int .u64 l.nx, .int .u64 l.ak, .bool l.hs]
  own : OwnP w base A c l.op
  le : base ≤ g
section
variable {w w' : World} {base g : Nat} {A : Option Addr} {c : Nat} {l : LG}
theorem Led.drew (h : Led w base g A c l) : Led w.drew base g A c l := ⟨h.blk, h.own, h.le⟩
theorem Led.drewN (h : Led w base g A c l) (n : Nat) : Led (w.drewN n) base g A c l := ⟨h.blk, h.own, h.le⟩
theorem Led.lt (h : Led w base g A c l) : g < w.heap.size := h.blk.lt
theorem Led.below (h : Led w base g A c l) (hb : Below w.heap.size w w') : Led w' base g A c l := ⟨h.blk.below hb h.blk.lt, OwnV.below h.own hb, h.le⟩
theorem Led.ne (h : Led w base g A c l) : ∀ k, (Value.slice A l.op.length c).ownBlock = some k → k ≠ g := by
  intro k hk
  rcases h.own.2 with ⟨h1, _⟩ | ⟨g', cap, cur, hv, _, hh, _⟩
  · rw [h1] at hk; cases hk
  · rw [hv] at hk
    simp [Value.ownBlock] at hk
    subst hk
    intro e
    subst e
    have := h.blk
    unfold Blk at this
    rw [hh] at this
    injection this with this
    injection this with _ this
    exact absurd this (by decide)
end
theorem LNew_any (w : World) (base : Nat) (hb : base ≤ w.heap.size) : Calls Try.prog 5 #[] w fun r w' => ∃ g, r = .returned (.pointer (some ⟨g, 0, none⟩)) ∧ Led w' base g none 0 lgN ∧ w.heap.size ≤ g ∧ Below w.heap.size w w' := by
  go_enter Try.func5, Try.ntmps5
  go_wp2_with fail
  go_ret
  exact ⟨_, rfl, ⟨Blk.new w _ _, OwnF.nil _ _, hb⟩, Nat.le_refl _, (Below.refl _ _).alloc (Nat.le_refl _) _⟩
theorem LNext_any (base g : Nat) (A : Option Addr) (c : Nat) (l : LG) (w : World) (h : Led w base g A c l) :
    Calls Try.prog 22 #[.pointer (some ⟨g, 0, none⟩)] w fun r w' => r = .returned (.int .u64 l.nx) ∧ w = w' := by
  have c1 := h.blk.cell 1
  simp at c1
  clear h
  go_enter Try.func22, Try.ntmps22
  go_wp2_with fail
  go_ret
  exact ⟨rfl, rfl⟩
theorem LAcked_any (base g : Nat) (A : Option Addr) (c : Nat) (l : LG) (w : World) (h : Led w base g A c l) :
    Calls Try.prog 21 #[.pointer (some ⟨g, 0, none⟩)] w fun r w' => r = .returned (.tuple #[.int .u64 l.ak, .bool l.hs]) ∧ ∃ k, w' = w.drewN k := by
  have c2 := h.blk.cell 2
  have c3 := h.blk.cell 3
  simp at c2 c3
  clear h
  go_enter Try.func21, Try.ntmps21
  go_wp2_with fail
  go_region
  go_wp2
  exact bodyPost_ret (results_tmp2 rfl _ _ _) rfl ⟨rfl, _, rfl⟩
theorem LNext_nil (w : World) : Calls Try.prog 22 #[.pointer none] w fun r w' => r = .returned (.int .u64 0) ∧ w = w' := by
  go_enter Try.func22, Try.ntmps22
  go_wp2_with fail
  go_ret
  exact ⟨rfl, rfl⟩
theorem LAcked_nil (w : World) : Calls Try.prog 21 #[.pointer none] w fun r w' => r = .returned (.tuple #[.int .u64 0, .bool false]) ∧ w = w' := by
  go_enter Try.func21, Try.ntmps21
  go_wp2_with fail
  exact bodyPost_ret (results_tmp2 rfl _ _ _) rfl ⟨rfl, rfl⟩
theorem LSend_nil (p : PK) (w : World) : Calls Try.prog 13 #[.pointer none, .agg #[.int .u64 p.nu, .int .u64 p.se, .int .i64 p.si, .bool p.aq]] w fun r w' => r = .returned (.int .i64 6) ∧ Below w.heap.size w w' := by
  go_enter Try.func13, Try.ntmps13
  go_wp2_with fail
  go_ret
  exact ⟨rfl, (Below.refl _ _).alloc (Nat.le_refl _) _⟩
end Go.Proofs.Ytefhbiocddgijaa
