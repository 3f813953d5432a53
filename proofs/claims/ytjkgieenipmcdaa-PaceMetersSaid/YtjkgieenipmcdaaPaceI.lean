/-
  The reference's meter.
-/
import Derived.Test.YtjkgieenipmcdaaPaceE
namespace Go.Proofs.Ytjkgieenipmcdaa
open Go.RowKit
set_option linter.unusedVariables false

def RV (m : MT) : Array Value := #[.int .i64 m.wi, .int .u64 m.th, .int .i64 m.fl, .int .u64 m.st, .bool m.rc]
def RMt (w : World) (h : Nat) (m : MT) : Prop := Blk w h 54 (RV m)
section
variable {w : World} {h : Nat} {m : MT}
theorem RMt.c0 (x : RMt w h m) : w.cell? ⟨h, 0, none⟩ = some (.int .i64 m.wi) := Blk.cell x 0
theorem RMt.c1 (x : RMt w h m) : w.cell? ⟨h, 1, none⟩ = some (.int .u64 m.th) := Blk.cell x 1
theorem RMt.c2 (x : RMt w h m) : w.cell? ⟨h, 2, none⟩ = some (.int .i64 m.fl) := Blk.cell x 2
theorem RMt.c3 (x : RMt w h m) : w.cell? ⟨h, 3, none⟩ = some (.int .u64 m.st) := Blk.cell x 3
theorem RMt.c4 (x : RMt w h m) : w.cell? ⟨h, 4, none⟩ = some (.bool m.rc) := Blk.cell x 4
theorem RMt.lt (x : RMt w h m) : h < w.heap.size := Blk.lt x
theorem RMt.drewN (x : RMt w h m) (k : Nat) : RMt (w.drewN k) h m := x
end
theorem RMt.drew {w : World} {h : Nat} {m : MT} (x : RMt w h m) : RMt w.drew h m := x
theorem gb_drew {a w : World} {row : Option Nat} (h : a.grownBy w row) : a.grownBy w.drew row := gb_drewN h 1
theorem rmt_gb {w w' : World} {g h : Nat} {m : MT} (a : RMt w g m) (b : w.grownBy w' (some h)) (hne : g ≠ h) : RMt w' g m := Blk.grown a b (by simpa using hne)
theorem gb_one {w : World} {h i : Nat} {u : Value} : w.grownBy (w.setCell ⟨h, i, none⟩ u) (some h) := gb_set (gb_refl _ _) rfl _
theorem gb_more {a w : World} {h i : Nat} {u : Value} (x : a.grownBy w (some h)) : a.grownBy (w.setCell ⟨h, i, none⟩ u) (some h) := gb_set x rfl _
section
variable {w : World} {h : Nat} {wi th fl st : Int} {rc : Bool}
theorem rm_fl (x : RMt w h ⟨wi, th, fl, rc, st⟩) (F : Int) : RMt (w.setCell ⟨h, 2, none⟩ (.int .i64 F)) h ⟨wi, th, F, rc, st⟩ := Blk.set_ x 2 _
theorem rm_wi (x : RMt w h ⟨wi, th, fl, rc, st⟩) {V W : Int} (e : V = W) : RMt (w.setCell ⟨h, 0, none⟩ (.int .i64 V)) h ⟨W, th, fl, rc, st⟩ := by subst e; exact Blk.set_ x 0 _
theorem rm_wi2 (x : RMt w h ⟨wi, th, fl, rc, st⟩) {U V W : Int} (e : V = W) : RMt ((w.setCell ⟨h, 0, none⟩ (.int .i64 U)).setCell ⟨h, 0, none⟩ (.int .i64 V)) h ⟨W, th, fl, rc, st⟩ := rm_wi (rm_wi x rfl) e
theorem rm_th (x : RMt w h ⟨wi, th, fl, rc, st⟩) {V W : Int} (e : V = W) : RMt (w.setCell ⟨h, 1, none⟩ (.int .u64 V)) h ⟨wi, W, fl, rc, st⟩ := by subst e; exact Blk.set_ x 1 _
theorem rm_st (x : RMt w h ⟨wi, th, fl, rc, st⟩) (V : Int) : RMt (w.setCell ⟨h, 3, none⟩ (.int .u64 V)) h ⟨wi, th, fl, rc, V⟩ := Blk.set_ x 3 _
theorem rm_rc (x : RMt w h ⟨wi, th, fl, rc, st⟩) (b : Bool) : RMt (w.setCell ⟨h, 4, none⟩ (.bool b)) h ⟨wi, th, fl, b, st⟩ := Blk.set_ x 4 _
end
theorem rNew_any (w : World) : Calls Try.prog 18 #[] w fun r w' => ∃ g, r = .returned (.pointer (some ⟨g, 0, none⟩)) ∧ RMt w' g mt0 ∧ w.heap.size ≤ g ∧ Below w.heap.size w w' := by
  go_enter Try.func18, Try.ntmps18
  go_wp2
  go_ret
  exact ⟨_, rfl, Blk.new w _ _, Nat.le_refl _, (Below.refl _ _).alloc (Nat.le_refl _) _⟩
set_option maxRecDepth 100000 in
theorem rDo_nil (q n s t : Int) (w : World) : Calls Try.prog 23 #[.pointer none, .int .u8 q, .int .i64 n, .int .u64 s, .int .u64 t] w fun r w' => r = .returned (.int .i64 6) ∧ w = w' := by
  go_enter Try.func23, Try.ntmps23
  go_wp2
  go_ret
  exact ⟨rfl, rfl⟩
def DoPost (h : Nat) (w : World) (p : MT × Int) (r : Ending) (w' : World) : Prop := r = .returned (.int .i64 p.2) ∧ RMt w' h p.1 ∧ w.grownBy w' (some h)
set_option maxRecDepth 100000 in
theorem rDo_size (h : Nat) (m : MT) (q n s t : Int) (w : World) (x : RMt w h m) (hs : ¬ mSz n = true) :
    Calls Try.prog 23 #[.pointer (some ⟨h, 0, none⟩), .int .u8 q, .int .i64 n, .int .u64 s, .int .u64 t] w (DoPost h w (m, 1)) := by
  have X := Lib.hid x
  clear x
  rcases mSz_false hs with h1 | h1
  · clear hs
    go_enter Try.func23, Try.ntmps23
    go_wp2
    go_ret
    exact ⟨rfl, X.out, gb_refl _ _⟩
  · have hd : decide (n < 0) = false := by simp; omega
    clear hs
    go_enter Try.func23, Try.ntmps23
    go_wp2
    go_ret
    exact ⟨rfl, X.out, gb_refl _ _⟩
set_option maxRecDepth 100000 in
theorem rDo_0 (h : Nat) (m : MT) (n s t : Int) (w : World) (x : RMt w h m) (ok : MtOk m) (h0 : 0 ≤ n) (h1 : n ≤ 1200) :
    Calls Try.prog 23 #[.pointer (some ⟨h, 0, none⟩), .int .u8 0, .int .i64 n, .int .u64 s, .int .u64 t] w (DoPost h w (mSend m n)) := by
  have c2 := x.c2
  have f2 := Blk.frozen x 2
  have X := Lib.hid x
  clear x
  obtain ⟨_, _, ⟨p0, p1⟩, _⟩ := ok
  obtain ⟨wi, th, fl, rc, st⟩ := m
  simp only at *
  have hs : mSz n = true := by simp [mSz, h0, h1]
  by_cases hf : 1073741824 - fl < n
  · have e : mSend ⟨wi, th, fl, rc, st⟩ n = (⟨wi, th, fl, rc, st⟩, 8) := by simp [mSend, hs, hf]
    rw [e]
    clear e hs
    go_enter Try.func23, Try.ntmps23
    go_wp2
    go_ret
    exact ⟨rfl, X.out, gb_refl _ _⟩
  · have e : mSend ⟨wi, th, fl, rc, st⟩ n = (⟨wi, th, fl + n, rc, st⟩, 0) := by simp [mSend, hs, hf]
    rw [e]
    clear e hs
    go_enter Try.func23, Try.ntmps23
    go_wp2
    go_ret
    exact ⟨rfl, rm_fl X.out _, gb_one⟩
set_option maxRecDepth 100000 in
theorem rDo_less (h : Nat) (m : MT) (q n s t : Int) (w : World) (x : RMt w h m) (ok : MtOk m) (h0 : 0 ≤ n) (h1 : n ≤ 1200) (hq : 1 ≤ q) (hf : m.fl < n) :
    Calls Try.prog 23 #[.pointer (some ⟨h, 0, none⟩), .int .u8 q, .int .i64 n, .int .u64 s, .int .u64 t] w (DoPost h w (m, 6)) := by
  have c2 := x.c2
  have X := Lib.hid x
  clear x
  obtain ⟨_, _, ⟨p0, p1⟩, _⟩ := ok
  generalize m.fl = fl at *
  go_enter Try.func23, Try.ntmps23
  go_wp2
  go_ret
  exact ⟨rfl, X.out, gb_refl _ _⟩
set_option maxRecDepth 100000 in
theorem rDo_keep (h : Nat) (m : MT) (q n s t : Int) (w : World) (x : RMt w h m) (ok : MtOk m) (h0 : 0 ≤ n) (h1 : n ≤ 1200) (hq : 1 ≤ q) (hf : n ≤ m.fl) (ha : ¬ mAf m s = true) :
    Calls Try.prog 23 #[.pointer (some ⟨h, 0, none⟩), .int .u8 q, .int .i64 n, .int .u64 s, .int .u64 t] w (DoPost h w ({ m with fl := m.fl - n }, 0)) := by
  have c2 := x.c2
  have c3 := x.c3
  have c4 := x.c4
  have f2 := Blk.frozen x 2
  have X := Lib.hid x
  clear x
  obtain ⟨_, _, ⟨p0, p1⟩, _⟩ := ok
  obtain ⟨wi, th, fl, rc, st⟩ := m
  simp only at *
  unfold mAf at ha
  rcases rc with _ | _
  · simp at ha
  · simp at ha
    go_enter Try.func23, Try.ntmps23
    go_wp2
    go_ret
    exact ⟨rfl, rm_fl X.out _, gb_one⟩
set_option maxRecDepth 100000 in
theorem rDo_3 (h : Nat) (m : MT) (n s t : Int) (w : World) (x : RMt w h m) (ok : MtOk m) (h0 : 0 ≤ n) (h1 : n ≤ 1200) (hf : n ≤ m.fl) (ha : mAf m s = true) :
    Calls Try.prog 23 #[.pointer (some ⟨h, 0, none⟩), .int .u8 3, .int .i64 n, .int .u64 s, .int .u64 t] w (DoPost h w ({ m with fl := m.fl - n }, 0)) := by
  have c2 := x.c2
  have c3 := x.c3
  have c4 := x.c4
  have f2 := Blk.frozen x 2
  have X := Lib.hid x
  clear x
  obtain ⟨_, _, ⟨p0, p1⟩, _⟩ := ok
  obtain ⟨wi, th, fl, rc, st⟩ := m
  simp only at *
  unfold mAf at ha
  rcases rc with _ | _
  · clear ha
    go_enter Try.func23, Try.ntmps23
    go_wp2
    go_ret
    exact ⟨rfl, rm_fl X.out _, gb_one⟩
  · simp at ha
    have hd : decide (s ≤ st) = false := by simp; omega
    go_enter Try.func23, Try.ntmps23
    go_wp2
    go_ret
    exact ⟨rfl, rm_fl X.out _, gb_one⟩
end Go.Proofs.Ytjkgieenipmcdaa
