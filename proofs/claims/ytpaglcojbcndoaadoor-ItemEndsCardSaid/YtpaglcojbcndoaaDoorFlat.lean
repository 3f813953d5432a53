/-
  Rows of elements of several cells each, whatever the element; what a call leaves but for some blocks.
-/
import Derived.Test.YtpaglcojbcndoaaDoorOpenT
import Derived.Test.YtpaglcojbcndoaaDoorInts
import Derived.ArgAppend
namespace Go.Proofs.YtpaglcojbcndoaaDoor
open Go.RowKit
set_option linter.unusedVariables false
set_option linter.unusedSimpArgs false

section
variable {α : Type} (C : α → List Value) (k : Nat) (hk : ∀ x, (C x).length = k)
def FlV (l : List α) : List Value := l.flatMap C
theorem FlV_nil : FlV C [] = [] := rfl
theorem FlV_cons (x : α) (l : List α) : FlV C (x :: l) = C x ++ FlV C l := rfl
theorem FlV_append (a b : List α) : FlV C (a ++ b) = FlV C a ++ FlV C b := by simp [FlV]
theorem FlV_one (x : α) : FlV C [x] = C x := by simp [FlV]
include hk in
theorem FlV_length : ∀ l : List α, (FlV C l).length = l.length * k
  | [] => by simp [FlV]
  | x :: l => by rw [FlV_cons, List.length_append, hk, FlV_length l, List.length_cons, Nat.add_mul]; omega
include hk in
theorem FlV_get : ∀ {l : List α} {i : Nat} {x : α}, l[i]? = some x → ∀ {j : Nat}, j < k → (FlV C l)[i * k + j]? = (C x)[j]?
  | [], i, x, h, j, hj => by simp at h
  | y :: l, 0, x, h, j, hj => by
    simp at h; subst h
    rw [FlV_cons, Nat.zero_mul, Nat.zero_add, List.getElem?_append_left (by rw [hk]; exact hj)]
  | y :: l, i + 1, x, h, j, hj => by
    rw [FlV_cons, List.getElem?_append_right (by rw [hk, Nat.add_mul]; omega), hk, show (i + 1) * k + j - k = i * k + j by rw [Nat.add_mul]; omega]
    exact FlV_get (by simpa using h) hj
include hk in
theorem FlV_take (l : List α) (n : Nat) (hn : n ≤ l.length) : (FlV C l).take (n * k) = FlV C (l.take n) := by
  conv => lhs; rw [← List.take_append_drop n l, FlV_append]
  have : (FlV C (l.take n)).length = n * k := by rw [FlV_length C k hk]; simp [hn]
  rw [← this, List.take_left]
theorem FlV_oneCell (h1 : ∀ x, ∀ u ∈ C x, u.oneCell' = true) (l : List α) : ∀ u ∈ FlV C l, u.oneCell' = true := by
  intro u hu
  simp only [FlV, List.mem_flatMap] at hu
  obtain ⟨x, _, hx⟩ := hu
  exact h1 x u hx
end
/-- The slice '.slice A l.length _' reads as these elements. -/
def RdF {α : Type} (C : α → List Value) (k : Nat) (w : World) (A : Option Addr) (l : List α) : Prop := Reads w w.heap.size k A l.length (FlV C l)
/-- .. is a row of the call's own. -/
def OwnF {α : Type} (C : α → List Value) (k : Nat) (E : TypeId) (w : World) (base : Nat) (A : Option Addr) (c : Nat) (l : List α) : Prop := OwnV w base E k A c l.length (FlV C l)
section
variable {α : Type} {C : α → List Value} {k : Nat} {w w' : World} {A : Option Addr} {l : List α}
theorem RdF.below (h : RdF C k w A l) (hb : Below w.heap.size w w') : RdF C k w' A l := (Reads.below h hb).more hb.size
theorem RdF.alloc (h : RdF C k w A l) (o : Obj) : RdF C k (w.alloc o) A l := (Reads.alloc h (Nat.le_refl _) o).more (by simp)
theorem RdF.at_ (hk : ∀ x, (C x).length = k) (hk0 : 0 < k) {n : Nat} (h : Reads w n k A l.length (FlV C l)) {i : Nat} (hi : i < l.length) :
    ∃ b off x, A = some ⟨b, off, none⟩ ∧ b < n ∧ l[i]? = some x ∧ ∀ j, j < k → w.cell? ⟨b, off + (i * k + j), none⟩ = (C x)[j]? := by
  obtain ⟨ad, e, hb, hc⟩ := h.2 (by omega)
  obtain ⟨b, off, spot⟩ := ad
  have hx : l[i]? = some l[i] := List.getElem?_eq_getElem hi
  have hat : ∀ j, j < k → ∃ u, (FlV C l)[i * k + j]? = some u ∧ (C l[i])[j]? = some u := fun j hj => by
    have := FlV_get C k hk hx hj
    exact ⟨(C l[i])[j]'(by rw [hk]; exact hj), by rw [this]; exact List.getElem?_eq_getElem _, List.getElem?_eq_getElem _⟩
  have hs : spot = none := by
    have hx0 : l[0]? = some l[0] := List.getElem?_eq_getElem (by omega)
    have g0 := FlV_get C k hk hx0 hk0
    rw [Nat.zero_mul, Nat.zero_add, List.getElem?_eq_getElem (show 0 < (C l[0]).length by rw [hk]; exact hk0)] at g0
    simpa [Addr.add] using World.cell?_spot (hc _ _ g0)
  subst hs
  refine ⟨b, off, l[i], e, hb, hx, fun j hj => ?_⟩
  obtain ⟨u, h1, h2⟩ := hat j hj
  have := hc _ _ h1
  rw [add_none] at this
  rw [this, h2]
theorem RdF.of_T {ok : α → Prop} (hk : ∀ x, (C x).length = k) (hk0 : 0 < k) (h : RdT k C ok w A l) : RdF C k w A l := by
  rcases h.row with h0 | ⟨b, off, rfl, hlt, hc⟩
  · rw [List.eq_nil_of_length_eq_zero h0]
    exact ⟨by simp [FlV], fun h => absurd h (by simp)⟩
  · refine ⟨FlV_length C k hk l, fun _ => ⟨_, rfl, hlt, fun j u hu => ?_⟩⟩
    have hj : j < l.length * k := by
      rw [← FlV_length C k hk]
      rcases Nat.lt_or_ge j (FlV C l).length with h | h
      · exact h
      · rw [List.getElem?_eq_none h] at hu; cases hu
    have hdk : j / k < l.length := Nat.div_lt_of_lt_mul (by rw [Nat.mul_comm]; exact hj)
    have hx : l[j / k]? = some l[j / k] := List.getElem?_eq_getElem hdk
    have hm : j % k < k := Nat.mod_lt _ hk0
    have e : j / k * k + j % k = j := by rw [Nat.mul_comm]; exact Nat.div_add_mod j k
    have h1 := FlV_get C k hk hx hm
    rw [e, hu] at h1
    have := hc (j / k) (j % k) hdk hm
    rw [hx, e] at this
    rw [add_none, this, h1]
    rfl
variable {E : TypeId} {c base : Nat}
theorem OwnF.reads (h : OwnF C k E w base A c l) : RdF C k w A l := OwnV.reads h
theorem OwnF.below (h : OwnF C k E w base A c l) (hb : Below w.heap.size w w') : OwnF C k E w' base A c l := OwnV.below h hb
theorem OwnF.nil (w : World) (base : Nat) : OwnF C k E w base none 0 [] := ⟨by simp [FlV], .inl ⟨rfl, rfl⟩⟩
end

/-- All as it was but for the blocks of S. -/
structure Frm (w w' : World) (S : Nat → Prop) : Prop where
  os : w'.os = w.os
  tape : w'.tape = w.tape
  output : w'.output = w.output
  size : w.heap.size ≤ w'.heap.size
  blk : ∀ b, b < w.heap.size → ¬ S b → w'.heap[b]? = w.heap[b]?
section
variable {w w' w'' : World} {S T : Nat → Prop}
theorem Frm.refl (w : World) (S : Nat → Prop) : Frm w w S := ⟨rfl, rfl, rfl, Nat.le_refl _, fun _ _ _ => rfl⟩
theorem Frm.trans (h : Frm w w' S) (k : Frm w' w'' S) : Frm w w'' S := ⟨k.os.trans h.os, k.tape.trans h.tape, k.output.trans h.output, Nat.le_trans h.size k.size, fun b hb hs => (k.blk b (Nat.lt_of_lt_of_le hb h.size) hs).trans (h.blk b hb hs)⟩
theorem Frm.mono (h : Frm w w' S) (hs : ∀ b, b < w.heap.size → S b → T b) : Frm w w' T := ⟨h.os, h.tape, h.output, h.size, fun b hb hn => h.blk b hb (fun e => hn (hs b hb e))⟩
theorem Frm.drew (h : Frm w w' S) : Frm w w'.drew S := ⟨h.os, h.tape, h.output, h.size, h.blk⟩
theorem Frm.drewN (h : Frm w w' S) (n : Nat) : Frm w (w'.drewN n) S := ⟨h.os, h.tape, h.output, h.size, h.blk⟩
theorem Frm.grown (h : Frm w w' S) {row : Option Nat} (hg : w'.grownBy w'' row) (hr : ∀ r, row = some r → w.heap.size ≤ r ∨ S r) : Frm w w'' S :=
  ⟨hg.os.trans h.os, hg.tape.trans h.tape, hg.output.trans h.output, Nat.le_trans h.size hg.size, fun b hb hs => (hg.block b (Nat.lt_of_lt_of_le hb h.size) (fun e => by
    rcases hr b e.symm with h1 | h1
    · omega
    · exact hs h1)).trans (h.blk b hb hs)⟩
theorem Frm.alloc (h : Frm w w' S) (o : Obj) : Frm w (w'.alloc o) S := h.grown (World.grownBy_alloc w' o none) (fun r e => by cases e)
theorem Frm.set (h : Frm w w' S) {p : Addr} (hp : w.heap.size ≤ p.block ∨ S p.block) (u : Value) : Frm w (w'.setCell p u) S :=
  ⟨h.os, h.tape, h.output, by simpa [World.setCell] using h.size, fun b hb hs => (Below.heap_setCell w' p u b (by
    rintro rfl
    rcases hp with h1 | h1
    · omega
    · exact hs h1)).trans (h.blk b hb hs)⟩
theorem Frm.below (h : Frm w w' S) {B : Nat} (hB : B ≤ w.heap.size) (hs : ∀ b, b < B → ¬ S b) : Below B w w' := ⟨h.os, h.tape, h.output, h.size, fun b hb => h.blk b (by omega) (hs b hb)⟩
theorem Frm.of_below (h : Below w.heap.size w w') : Frm w w' S := ⟨h.os, h.tape, h.output, h.size, fun b hb _ => h.block b hb⟩
theorem Frm.then_below (h : Frm w w' S) (k : Below w'.heap.size w' w'') : Frm w w'' S := h.trans (Frm.of_below k)
theorem Frm.keep {g : Nat} {t : TypeId} {cs : Array Value} (h : Frm w w' S) (hb : Blk w g t cs) (hs : ¬ S g) : Blk w' g t cs := (h.blk g hb.lt hs).trans hb
theorem OwnV.frm {base : Nat} {e : TypeId} {size n : Nat} {A : Option Addr} {c : Nat} {xs : List Value} (h : OwnV w base e size A c n xs) (hf : Frm w w' S) (hne : ∀ k, (Value.slice A n c).ownBlock = some k → ¬ S k) : OwnV w' base e size A c n xs := by
  obtain ⟨h1, h2⟩ := h
  refine ⟨h1, ?_⟩
  rcases h2 with h2 | ⟨g, cap, cur, hv, hb, hh, r⟩
  · exact .inl h2
  · refine .inr ⟨g, cap, cur, hv, hb, ?_, r⟩
    injection hv with hA
    subst hA
    rw [hf.blk g (Blk.lt hh) (hne g (by simp [Value.ownBlock]))]; exact hh
end
end Go.Proofs.YtpaglcojbcndoaaDoor
