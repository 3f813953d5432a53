/-
  The reference's quilt: Put.
-/
import Derived.Test.YtdafeokjedmnkaaDoorQuiltR
namespace Go.Proofs.YtdafeokjedmnkaaDoor
open Go.RowKit Go.Maps
set_option linter.unusedVariables false
set_option linter.unusedSimpArgs false
/-- But for blocks x and B all stands. -/
structure Two (w w' : World) (x B : Nat) : Prop where
  os : w'.os = w.os
  tape : w'.tape = w.tape
  output : w'.output = w.output
  size : w.heap.size ≤ w'.heap.size
  block : ∀ q, q < w.heap.size → q ≠ x → q ≠ B → w'.heap[q]? = w.heap[q]?
theorem Two.refl (w : World) (x B : Nat) : Two w w x B := ⟨rfl, rfl, rfl, Nat.le_refl _, fun _ _ _ _ => rfl⟩
theorem Two.trans {a b c : World} {x B : Nat} (h : Two a b x B) (k : Two b c x B) : Two a c x B :=
  ⟨k.os.trans h.os, k.tape.trans h.tape, k.output.trans h.output, Nat.le_trans h.size k.size, fun q h1 h2 h3 => (k.block q (Nat.lt_of_lt_of_le h1 h.size) h2 h3).trans (h.block q h1 h2 h3)⟩
theorem Two.grown {a b c : World} {x B : Nat} {row : Option Nat} (h : Two a b x B) (k : b.grownBy c row) (hr : ∀ r, row = some r → r = x ∨ r = B ∨ a.heap.size ≤ r) : Two a c x B :=
  ⟨k.os.trans h.os, k.tape.trans h.tape, k.output.trans h.output, Nat.le_trans h.size k.size, fun q h1 h2 h3 => (k.block q (Nat.lt_of_lt_of_le h1 h.size) (fun e => by
    rcases hr q e.symm with h4 | h4 | h4
    · exact h2 h4
    · exact h3 h4
    · omega)).trans (h.block q h1 h2 h3)⟩
theorem Two.drewN {a b : World} {x B : Nat} (h : Two a b x B) (k : Nat) : Two a (b.drewN k) x B := ⟨h.os, h.tape, h.output, h.size, h.block⟩
theorem Two.set {a b : World} {x B : Nat} (h : Two a b x B) (i : Nat) (u : Value) : Two a (b.setCell ⟨x, i, none⟩ u) x B := h.grown (gb_set (gb_refl _ _) (p := ⟨x, i, none⟩) rfl _) (fun r e => by injection e with e; exact .inl e.symm)
theorem Two.alloc {a b : World} {x B : Nat} (h : Two a b x B) (o : Obj) : Two a (b.alloc o) x B := h.grown (World.grownBy_alloc b o none) (fun r e => by cases e)
theorem Two.below {a b : World} {x B base : Nat} (h : Two a b x B) (hx : base ≤ x) (hB : base ≤ B) (hs : base ≤ a.heap.size) : Below base a b := ⟨h.os, h.tape, h.output, h.size, fun q hq => h.block q (by omega) (by omega) (by omega)⟩
theorem Two.rd {a b : World} {x B : Nat} {A : Option Addr} {l : List Int} (h : Two a b x B) (hr : Rd a A l) (hn : ∀ ad, A = some ad → ad.block ≠ x ∧ ad.block ≠ B) : Rd b A l := by
  refine ⟨hr.1, fun hl => ?_⟩
  obtain ⟨ad, e, hb, hc⟩ := hr.2 hl
  refine ⟨ad, e, Nat.lt_of_lt_of_le hb h.size, fun j u hu => ?_⟩
  rw [← hc j u hu]
  have hblk : (ad.add j).block = ad.block := block_of_add ad j
  have h2 := hn ad e
  exact World.cell?_of_block (w := a) (by rw [hblk]; exact h.block ad.block hb h2.1 h2.2)
theorem fput_next (f : Int → Option Int) (off : Int) (p : List Int) (k : Nat) : fput f off p k (off + k) = f (off + k) := fput_far (by omega)
theorem fput_new {f : Int → Option Int} {off : Int} {p : List Int} {k : Nat} {b : Int} (h : f (off + k) = none) (hx : p[k]? = some b) : fput f off p (k + 1) = fun y => if y = off + (k : Int) then some b else fput f off p k y := by
  funext y
  by_cases hy : y = off + (k : Int)
  · subst hy
    simp only [if_true]
    rw [fput_at (by omega) (by omega) h, ← hx]
    congr 1
    omega
  · simp only [if_neg hy]
    unfold fput
    by_cases h1 : off ≤ y ∧ y < off + k ∧ f y = none
    · rw [if_pos h1, if_pos ⟨h1.1, by omega, h1.2.2⟩]
    · rw [if_neg h1, if_neg (fun h2 => h1 ⟨h2.1, by omega, h2.2.2⟩)]
theorem fput_skip {f : Int → Option Int} {off : Int} {p : List Int} {k : Nat} (h : f (off + k) ≠ none) : fput f off p (k + 1) = fput f off p k := by
  funext y
  by_cases hy : y = off + (k : Int)
  · subst hy
    rw [fput_old h, fput_old h]
  · unfold fput
    by_cases h1 : off ≤ y ∧ y < off + k ∧ f y = none
    · rw [if_pos h1, if_pos ⟨h1.1, by omega, h1.2.2⟩]
    · rw [if_neg h1, if_neg (fun h2 => h1 ⟨h2.1, by omega, h2.2.2⟩)]
theorem putCode_ways (s : QS) (off : Int) (len : Nat) (e : Bool) : (putCode s off len e = 1 ∧ (4611686018427387903 < off ∨ 4611686018427387903 - off < len)) ∨ (putCode s off len e = 4 ∧ off + (len : Int) ≤ 4611686018427387903 ∧ qFits s (off + len) e = false) ∨ (putCode s off len e = 0 ∧ off + (len : Int) ≤ 4611686018427387903 ∧ qFits s (off + len) e = true) := by
  unfold putCode
  by_cases h1 : 4611686018427387903 < off ∨ 4611686018427387903 - off < len
  · rw [if_pos h1]
    exact .inl ⟨rfl, h1⟩
  · rw [if_neg h1]
    by_cases h2 : qFits s (off + len) e = true
    · rw [if_pos h2]
      exact .inr (.inr ⟨rfl, by omega, h2⟩)
    · rw [if_neg h2]
      exact .inr (.inl ⟨rfl, by omega, by simpa using h2⟩)
theorem rPut_arg (x B n : Nat) (s : QS) (off : Int) (A : Option Addr) (c : Nat) (p : List Int) (e : Bool) (w : World) (hw : (Lit.int .u64 off).wf = true) (hl : p.length ≤ 100000) (hbad : 4611686018427387903 < off ∨ 4611686018427387903 - off < p.length) :
    Calls Tryd.prog 14 #[.pointer (some ⟨x, 0, none⟩), .int .u64 off, .slice A p.length c, .bool e] w fun r w' => r = .returned (.int .i64 1) ∧ w = w' := by
  have hb := bounds_u64 hw
  have w1 : IntKind.u64.wrap (p.length : Int) = (p.length : Int) := IntWalk.u64_in _ (by omega)
  by_cases h1 : 4611686018427387903 < off
  · have hd : decide (4611686018427387903 < off) = true := by simpa using h1
    go_enter Tryd.func14, Tryd.ntmps14
    go_wp2_with fail
    go_ret
    exact ⟨rfl, rfl⟩
  · have hd : decide (4611686018427387903 < off) = false := by simpa using h1
    have w2 : IntKind.u64.wrap (off + (p.length : Int)) = off + (p.length : Int) := IntWalk.u64_in _ (by omega)
    have hd2 : decide (4611686018427387903 < off + (p.length : Int)) = true := by simp; omega
    go_enter Tryd.func14, Tryd.ntmps14
    go_wp2_with fail
    go_ret
    exact ⟨rfl, rfl⟩
theorem rPut_form (x B n : Nat) (s : QS) (off : Int) (A : Option Addr) (c : Nat) (p : List Int) (e : Bool) (w : World) (h : Blk w x 50 (XV B s)) (h0 : 0 ≤ off) (hl : p.length ≤ 100000) (hto : off + p.length ≤ 4611686018427387903) (hbad : qFits s (off + p.length) e = false) :
    Calls Tryd.prog 14 #[.pointer (some ⟨x, 0, none⟩), .int .u64 off, .slice A p.length c, .bool e] w fun r w' => r = .returned (.int .i64 4) ∧ w = w' := by
  have w1 : IntKind.u64.wrap (p.length : Int) = (p.length : Int) := IntWalk.u64_in _ (by omega)
  have hd : decide (4611686018427387903 < off) = false := by simp; omega
  have hd2 : decide (4611686018427387903 < off + (p.length : Int)) = false := by simp; omega
  have c2 := h.cell 2
  have c3 := h.cell 3
  have c4 := h.cell 4
  simp [XV] at c2 c3 c4
  unfold qFits at hbad
  obtain ⟨to, hT⟩ : ∃ to, to = off + (p.length : Int) := ⟨_, rfl⟩
  have w2 : IntKind.u64.wrap (off + (p.length : Int)) = to := by rw [hT]; exact IntWalk.u64_in _ (by omega)
  rw [← hT] at hd2 hbad
  clear hT h
  generalize s.en = en at *
  generalize s.hi = hi at *
  have ways : (en = true ∧ hi < to) ∨ (en = true ∧ e = true ∧ to < hi) ∨ (en = false ∧ e = true ∧ to < hi) := by
    rcases en with _ | _ <;> rcases e with _ | _ <;> simp at hbad ⊢ <;> omega
  rcases ways with ⟨rfl, h1⟩ | ⟨rfl, rfl, h1⟩ | ⟨rfl, rfl, h1⟩
  · simp only [if_true] at c3
    have d1 : decide (hi < to) = true := by simpa using h1
    clear hbad
    go_enter Tryd.func14, Tryd.ntmps14
    go_wp2_with fail
    go_ret
    exact ⟨rfl, rfl⟩
  · simp only [if_true] at c3
    have d1 : decide (hi < to) = false := by simp; omega
    have d2 : decide (to < hi) = true := by simpa using h1
    have d3 : (to == hi) = false := by rw [beq_eq_false_iff_ne]; omega
    clear hbad
    go_enter Tryd.func14, Tryd.ntmps14
    go_wp2_with fail
    go_ret
    exact ⟨rfl, rfl⟩
  · have d2 : decide (to < hi) = true := by simpa using h1
    clear hbad
    go_enter Tryd.func14, Tryd.ntmps14
    go_wp2_with fail
    go_ret
    exact ⟨rfl, rfl⟩
end Go.Proofs.YtdafeokjedmnkaaDoor
