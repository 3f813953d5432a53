/-
  Slices of integers of whatever kind, and rows of the call's own of whatever element type.
-/
import Derived.Test.YtpaglcojbcndoaaDoorBytesA
import Derived.Test.YtpaglcojbcndoaaDoorOpen
namespace Go.Proofs.YtpaglcojbcndoaaDoor
open Go.ChangeShapes Go.WideShapes Go.ChangeAt Go.RowKit
set_option linter.unusedVariables false

def IV (k : IntKind) (l : List Int) : List Value := l.map (Value.int k)
theorem IV_length (k : IntKind) (l : List Int) : (IV k l).length = l.length := by simp [IV]
theorem IV_append (k : IntKind) (a b : List Int) : IV k (a ++ b) = IV k a ++ IV k b := by simp [IV]
theorem IV_oneCell (k : IntKind) (l : List Int) : ∀ u ∈ IV k l, u.oneCell' = true := by
  intro u hu
  simp only [IV, List.mem_map] at hu
  obtain ⟨x, _, rfl⟩ := hu
  rfl
/-- The slice '.slice A l.length c' reads as the integers l. -/
def RdI (k : IntKind) (w : World) (A : Option Addr) (l : List Int) : Prop := Reads w w.heap.size 1 A l.length (IV k l)
section
variable {k : IntKind} {w w' : World} {A : Option Addr} {l : List Int}
theorem RdI.below (h : RdI k w A l) (hb : Below w.heap.size w w') : RdI k w' A l := (Reads.below h hb).more hb.size
theorem RdI.alloc (h : RdI k w A l) (o : Obj) : RdI k (w.alloc o) A l := (Reads.alloc h (Nat.le_refl _) o).more (by simp)
theorem RdI.nil (k : IntKind) (w : World) (A : Option Addr) : RdI k w A [] := ⟨by simp [IV], fun h => absurd h (by simp)⟩
theorem RdI.cell {b off : Nat} (h : RdI k w (some ⟨b, off, none⟩) l) {j : Nat} {x : Int} (hx : l[j]? = some x) : w.cell? ⟨b, off + j, none⟩ = some (.int k x) := by
  have hl : j < l.length := by
    rcases Nat.lt_or_ge j l.length with h | h
    · exact h
    · rw [List.getElem?_eq_none h] at hx; cases hx
  obtain ⟨ad, e, _, hc⟩ := h.2 (by omega)
  injection e with e
  subst e
  have := hc j (.int k x) (by simp [IV, hx])
  rw [← this]
  congr 1
  unfold Addr.add
  by_cases hj : j = 0 <;> simp [hj]
theorem RdI.some_ (h : RdI k w A l) (hn : 0 < l.length) : ∃ b off, A = some ⟨b, off, none⟩ ∧ b < w.heap.size := by
  obtain ⟨ad, e, hb, hc⟩ := h.2 hn
  obtain ⟨b, off, spot⟩ := ad
  obtain ⟨x, hx⟩ : ∃ x, l[0]? = some x := ⟨l[0], List.getElem?_eq_getElem hn⟩
  have h0 := hc 0 (.int k x) (by simp [IV, hx])
  have hs : spot = none := by simpa [Addr.add] using World.cell?_spot h0
  subst hs
  exact ⟨b, off, e, hb⟩
/-- What a round reads. -/
theorem RdI.at_ (h : RdI k w A l) {j : Nat} (hj : j < l.length) : ∃ b off x, A = some ⟨b, off, none⟩ ∧ b < w.heap.size ∧ l[j]? = some x ∧ w.cell? ⟨b, off + j, none⟩ = some (.int k x) := by
  obtain ⟨b, off, rfl, hb⟩ := h.some_ (by omega)
  exact ⟨b, off, l[j], rfl, hb, List.getElem?_eq_getElem hj, h.cell (List.getElem?_eq_getElem hj)⟩
end
def WF (k : IntKind) (l : List Int) : Prop := ∀ x ∈ l, (Lit.int k x).wf = true

theorem open_intsK {H : Type} {enc : TypeId × Value → H} {w : World} {base : Nat} {sp : Nat → Bool} {held : Bool} {a : Option Addr} {len cap fuel : Nat} {x : DataW H × List MemPlace} {T E : TypeId} {k : IntKind}
    (hT : Tryd.prog.underlying T = some (.slice E)) (hE : Tryd.prog.underlying E = some (.int k)) (hc : Tryd.prog.cellsOf E = 1)
    (h : DataW.trod enc Tryd.prog w base sp held fuel T [.slice a len cap] = some x) :
    ∃ l, RdI k w a l ∧ WF k l ∧ len = l.length ∧ l.length ≤ cap ∧ cap ≤ 9223372036854775807 ∧ (a = none → cap = 0) := by
  rcases open_ints hT hE hc h with ⟨hcs, _⟩ | ⟨ad, l, c, zs, hcs, _, hl, hm, hz, _, hcell, hwz⟩
  · simp at hcs
    obtain ⟨rfl, rfl, rfl⟩ := hcs
    exact ⟨[], RdI.nil _ _ _, (fun _ h => by cases h), rfl, by simp, by omega, fun _ => rfl⟩
  · simp at hcs
    obtain ⟨rfl, rfl, rfl⟩ := hcs
    have hlz : len ≤ zs.length := by rw [hz]; split <;> omega
    refine ⟨zs.take len, ⟨by simp [IV], fun hn => ⟨ad, rfl, ?_, fun j u hu => ?_⟩⟩, fun n hn => hwz n (List.mem_of_mem_take hn), by simp; omega, by simp; omega, by unfold maxLen at hm; omega, fun h => by cases h⟩
    · have h0 : 0 < zs.length := by simp at hn; omega
      have := hcell 0 h0
      have hb := World.block_lt_of_cell? w _ this
      rwa [block_of_add] at hb
    · simp only [IV, List.getElem?_map, Option.map_eq_some_iff] at hu
      obtain ⟨y, hy, rfl⟩ := hu
      rw [List.getElem?_take] at hy
      split at hy
      · have hj : j < zs.length := by
          rcases Nat.lt_or_ge j zs.length with h | h
          · exact h
          · rw [List.getElem?_eq_none h] at hy; cases hy
        rw [hcell j hj]
        simp [List.getD, hy]
      · cases hy

/-- A row of the call's own, of whatever element type. -/
def OwnV (w : World) (base : Nat) (e : TypeId) (size : Nat) (A : Option Addr) (c n : Nat) (xs : List Value) : Prop := w.ownsRow base e size (.slice A n c) n xs
theorem OwnV.nil (w : World) (base : Nat) (e : TypeId) (size : Nat) : OwnV w base e size none 0 0 [] := ⟨by simp, .inl ⟨rfl, rfl⟩⟩
theorem OwnV.row_ge {w : World} {base : Nat} {e : TypeId} {size n : Nat} {A : Option Addr} {c : Nat} {xs : List Value} (h : OwnV w base e size A c n xs) : ∀ k, (Value.slice A n c).ownBlock = some k → base ≤ k := by
  intro k hk
  rcases h.2 with ⟨h2, _⟩ | ⟨g, cap, cur, hv, hg, _⟩
  · rw [h2] at hk; cases hk
  · injection hv with hA; subst hA
    simp [Value.ownBlock] at hk; omega
theorem OwnV.row_is {w : World} {base : Nat} {e : TypeId} {size n : Nat} {A : Option Addr} {c : Nat} {xs : List Value} (h : OwnV w base e size A c n xs) : A = none ∧ n = 0 ∧ c = 0 ∧ xs = [] ∨ ∃ g cur, A = some ⟨g, 0, none⟩ ∧ base ≤ g ∧ Blk w g e cur ∧ cur.toList.take (n * size) = xs ∧ n ≤ c := by
  rcases h.2 with ⟨h2, h3⟩ | ⟨g, cap, cur, hv, hg, hh, h3, h4, h5, h6⟩
  · injection h2 with h2 h4 h5
    exact .inl ⟨h2, h4, h5, List.eq_nil_of_length_eq_zero (by rw [h.1, h3]; simp)⟩
  · injection hv with e1 e2 e3
    exact .inr ⟨g, cur, e1, hg, hh, h6, by omega⟩
theorem OwnV.below {w w' : World} {base : Nat} {e : TypeId} {size n : Nat} {A : Option Addr} {c : Nat} {xs : List Value} (h : OwnV w base e size A c n xs) (hb : Below w.heap.size w w') : OwnV w' base e size A c n xs := by
  obtain ⟨h1, h2⟩ := h
  refine ⟨h1, ?_⟩
  rcases h2 with h2 | ⟨g, cap, cur, hv, hg, hh, r⟩
  · exact .inl h2
  · refine .inr ⟨g, cap, cur, hv, hg, ?_, r⟩
    rw [hb.block g (Blk.lt hh)]; exact hh
/-- It is left alone where another row is written. -/
theorem OwnV.grown {w w' : World} {base : Nat} {e : TypeId} {size n : Nat} {A : Option Addr} {c : Nat} {xs : List Value} {row : Option Nat} (h : OwnV w base e size A c n xs) (hg : w.grownBy w' row) (hne : ∀ g cur, Blk w g e cur → row ≠ some g) : OwnV w' base e size A c n xs := by
  obtain ⟨h1, h2⟩ := h
  refine ⟨h1, ?_⟩
  rcases h2 with h2 | ⟨g, cap, cur, hv, hb, hh, r⟩
  · exact .inl h2
  · refine .inr ⟨g, cap, cur, hv, hb, ?_, r⟩
    rw [hg.block g (Blk.lt hh) (fun e => hne g cur hh e.symm)]; exact hh
/-- A row of bytes is left alone where a row of another element type is written. -/
theorem Own.grown {w w' : World} {base c : Nat} {A : Option Addr} {l : List Int} {row : Option Nat} (h : Own w base A c l) (hg : w.grownBy w' row) (hne : ∀ g cur, Blk w g 5 cur → row ≠ some g) : Own w' base A c l := OwnV.grown h hg hne
theorem OwnV.other {w : World} {base : Nat} {e t : TypeId} {size n : Nat} {A : Option Addr} {c : Nat} {xs : List Value} (h : OwnV w base e size A c n xs) (hne : e ≠ t) : ∀ g cur, Blk w g t cur → (Value.slice A n c).ownBlock ≠ some g := by
  intro g cur hg hrow
  rcases h.row_is with ⟨rfl, _⟩ | ⟨g', cur', rfl, _, hb, _⟩
  · cases hrow
  · simp [Value.ownBlock] at hrow
    subst hrow
    exact Blk.ne_ hb hg hne rfl
theorem OwnV.reads {w : World} {base : Nat} {e : TypeId} {size n : Nat} {A : Option Addr} {c : Nat} {xs : List Value} (h : OwnV w base e size A c n xs) : Reads w w.heap.size size A n xs := Reads.of_own h

/-- What a round reads of it. -/
theorem OwnV.at_ {w : World} {base : Nat} {e : TypeId} {n : Nat} {A : Option Addr} {c : Nat} {xs : List Value} (h : OwnV w base e 1 A c n xs) {j : Nat} (hj : j < n) : ∃ g u, A = some ⟨g, 0, none⟩ ∧ g < w.heap.size ∧ xs[j]? = some u ∧ w.cell? ⟨g, j, none⟩ = some u := by
  rcases h.row_is with ⟨_, rfl, _⟩ | ⟨g, cur, rfl, _, hb, htk, _⟩
  · omega
  · have hl : xs.length = n := by have := h.1; omega
    obtain ⟨u, hu⟩ : ∃ u, xs[j]? = some u := ⟨xs[j], List.getElem?_eq_getElem (by omega)⟩
    refine ⟨g, u, rfl, hb.lt, hu, ?_⟩
    rw [hb.cell, ← Array.getElem?_toList, ← hu, ← htk, List.getElem?_take, if_pos (by omega)]
theorem wpList_appV {ops : Array Oper} {rest : List Oper} {o : Oper} {a : Act} {w : World} {Q : Exit → Act → World → Prop} (hgd : o.guard = none) (s x : Operand) (T E : TypeId) (size bytes : Nat) (z : Value)
    (ho : o.op = .call { callee := .builtin .append, args := #[s, x], argTypes := #[T, T] }) (hT : Tryd.prog.underlying T = some (.slice E))
    (hinfo : (Tryd.prog.info? E).map (fun i => (i.zero, i.size, i.bytes)) = some (some z, size, bytes)) (hzs : z.cells.size = size) (hsz : 0 < size)
    (base : Nat) {c d n m : Nat} {A B : Option Addr} {xs news : List Value} (hs : a.eval s = .slice A n c) (hx : a.eval x = .slice B m d) (hown : OwnV w base E size A c n xs) (hr : Reads w w.heap.size size B m news)
    (h1 : ∀ u ∈ news, u.oneCell' = true) (h63 : n + m ≤ maxLen) (hbytes : (n + m) * bytes ≤ 140737488355328) (hbase : base ≤ w.heap.size)
    (h : ∀ A' c' w', OwnV w' base E size A' c' (n + m) (xs ++ news) → w.grownBy w' (Value.slice A n c).ownBlock → Below base w w' →
      wpList Tryd.prog ops Q rest (a.put o.dst (.slice A' (n + m) c')) w') : wpList Tryd.prog ops Q (o :: rest) a w :=
  wpList_plain hgd fun K hK => by
    obtain ⟨i0, hi0, hz0, hz1, hz2⟩ := info_parts hinfo
    obtain ⟨v', w', hrun, h2, h3, h4⟩ := run_append_any (P := Tryd.prog) w base T o.type E i0 _ size bytes hT hi0 hz0 hz1 hz2 hzs hsz _ _ _ hown _ B _ d _ hr h1 h63 hbytes hbase
    unfold Oper.wp execOp
    simp only [ho, resolve, invoke, builtin, Sem.run_bind, Sem.run_pure, Result.andThen_ok, List.map_toArray, List.map_cons, List.map_nil, hs, hx, hrun]
    have hform : ∃ A' c', v' = .slice A' (n + m) c' := by
      rcases h2.2 with ⟨rfl, h0⟩ | ⟨g, cap, cur, rfl, _⟩
      · exact ⟨none, 0, by rw [h0]⟩
      · exact ⟨_, _, rfl⟩
    obtain ⟨A', c', rfl⟩ := hform
    exact hK _ _ (h A' c' w' h2 h3 ((Below.refl _ _).grown h3 hbase hown.row_ge))
end Go.Proofs.YtpaglcojbcndoaaDoor
