/-
  Slices of integers of whatever kind, and rows of the call's own of whatever element type.
-/
import Derived.Test.YtjibbegdieiknaaDoorMaAA
import Derived.Laws.CopyOwn
import Derived.Deep.MidRow
import Derived.Deep.OwnRows
import Derived.Deep.RegionHeld3
import Derived.IntWalk
import Derived.Stop.BytesEq
import Derived.Lib.SmallJoins
import Derived.Lib.Mul64
import Derived.Laws.Bits64b
import Derived.Laws.Externs
namespace Go.Proofs.YtjibbegdieiknaaDoor
open Go.ChangeShapes Go.WideShapes Go.ChangeAt Go.RowKit
set_option linter.unusedVariables false

def IV (k : IntKind) (l : List Int) : List Value := l.map (Value.int k)
theorem IV_length (k : IntKind) (l : List Int) : (IV k l).length = l.length := by simp [IV]
theorem IV_append (k : IntKind) (a b : List Int) : IV k (a ++ b) = IV k a ++ IV k b := by simp [IV]
theorem IV_oneCell (k : IntKind) (l : List Int) : ∀ u ∈ IV k l, u.oneCell' = true := by
  intro u hu
  simp only [IV, List.mem_map] at hu
  obtain ⟨x, _, rfl⟩ := hu
  rfl
/-- The slice '.slice A l.length c' reads as the integers l. -/
def RdI (k : IntKind) (w : World) (A : Option Addr) (l : List Int) : Prop := Reads w w.heap.size 1 A l.length (IV k l)
section
variable {k : IntKind} {w w' : World} {A : Option Addr} {l : List Int}
theorem RdI.below (h : RdI k w A l) (hb : Below w.heap.size w w') : RdI k w' A l := (Reads.below h hb).more hb.size
theorem RdI.alloc (h : RdI k w A l) (o : Obj) : RdI k (w.alloc o) A l := (Reads.alloc h (Nat.le_refl _) o).more (by simp)
theorem RdI.nil (k : IntKind) (w : World) (A : Option Addr) : RdI k w A [] := ⟨by simp [IV], fun h => absurd h (by simp)⟩
theorem RdI.cell {b off : Nat} (h : RdI k w (some ⟨b, off, none⟩) l) {j : Nat} {x : Int} (hx : l[j]? = some x) : w.cell? ⟨b, off + j, none⟩ = some (.int k x) := by
  have hl : j < l.length := by
    rcases Nat.lt_or_ge j l.length with h | h
    · exact h
    · rw [List.getElem?_eq_none h] at hx; cases hx
  obtain ⟨ad, e, _, hc⟩ := h.2 (by omega)
  injection e with e
  subst e
  have := hc j (.int k x) (by simp [IV, hx])
  rw [← this]
  congr 1
  unfold Addr.add
  by_cases hj : j = 0 <;> simp [hj]
theorem RdI.some_ (h : RdI k w A l) (hn : 0 < l.length) : ∃ b off, A = some ⟨b, off, none⟩ ∧ b < w.heap.size := by
  obtain ⟨ad, e, hb, hc⟩ := h.2 hn
  obtain ⟨b, off, spot⟩ := ad
  obtain ⟨x, hx⟩ : ∃ x, l[0]? = some x := ⟨l[0], List.getElem?_eq_getElem hn⟩
  have h0 := hc 0 (.int k x) (by simp [IV, hx])
  have hs : spot = none := by simpa [Addr.add] using World.cell?_spot h0
  subst hs
  exact ⟨b, off, e, hb⟩
/-- What a round reads. -/
theorem RdI.at_ (h : RdI k w A l) {j : Nat} (hj : j < l.length) : ∃ b off x, A = some ⟨b, off, none⟩ ∧ b < w.heap.size ∧ l[j]? = some x ∧ w.cell? ⟨b, off + j, none⟩ = some (.int k x) := by
  obtain ⟨b, off, rfl, hb⟩ := h.some_ (by omega)
  exact ⟨b, off, l[j], rfl, hb, List.getElem?_eq_getElem hj, h.cell (List.getElem?_eq_getElem hj)⟩
end
def WF (k : IntKind) (l : List Int) : Prop := ∀ x ∈ l, (Lit.int k x).wf = true

theorem open_intsK {H : Type} {enc : TypeId × Value → H} {w : World} {base : Nat} {sp : Nat → Bool} {held : Bool} {a : Option Addr} {len cap fuel : Nat} {x : DataW H × List MemPlace} {T E : TypeId} {k : IntKind}
    (hT : Tryd.prog.underlying T = some (.slice E)) (hE : Tryd.prog.underlying E = some (.int k)) (hc : Tryd.prog.cellsOf E = 1)
    (h : DataW.trod enc Tryd.prog w base sp held fuel T [.slice a len cap] = some x) :
    ∃ l, RdI k w a l ∧ WF k l ∧ len = l.length ∧ l.length ≤ cap ∧ cap ≤ 9223372036854775807 ∧ (a = none → cap = 0) := by
  rcases open_ints hT hE hc h with ⟨hcs, _⟩ | ⟨ad, l, c, zs, hcs, _, hl, hm, hz, _, hcell, hwz⟩
  · simp at hcs
    obtain ⟨rfl, rfl, rfl⟩ := hcs
    exact ⟨[], RdI.nil _ _ _, (fun _ h => by cases h), rfl, by simp, by omega, fun _ => rfl⟩
  · simp at hcs
    obtain ⟨rfl, rfl, rfl⟩ := hcs
    have hlz : len ≤ zs.length := by rw [hz]; split <;> omega
    refine ⟨zs.take len, ⟨by simp [IV], fun hn => ⟨ad, rfl, ?_, fun j u hu => ?_⟩⟩, fun n hn => hwz n (List.mem_of_mem_take hn), by simp; omega, by simp; omega, by unfold maxLen at hm; omega, fun h => by cases h⟩
    · have h0 : 0 < zs.length := by simp at hn; omega
      have := hcell 0 h0
      have hb := World.block_lt_of_cell? w _ this
      rwa [block_of_add] at hb
    · simp only [IV, List.getElem?_map, Option.map_eq_some_iff] at hu
      obtain ⟨y, hy, rfl⟩ := hu
      rw [List.getElem?_take] at hy
      split at hy
      · have hj : j < zs.length := by
          rcases Nat.lt_or_ge j zs.length with h | h
          · exact h
          · rw [List.getElem?_eq_none h] at hy; cases hy
        rw [hcell j hj]
        simp [List.getD, hy]
      · cases hy

/-- A row of the call's own, of whatever element type. -/
def OwnV (w : World) (base : Nat) (e : TypeId) (size : Nat) (A : Option Addr) (c n : Nat) (xs : List Value) : Prop := w.ownsRow base e size (.slice A n c) n xs
theorem OwnV.nil (w : World) (base : Nat) (e : TypeId) (size : Nat) : OwnV w base e size none 0 0 [] := ⟨by simp, .inl ⟨rfl, rfl⟩⟩
theorem OwnV.row_ge {w : World} {base : Nat} {e : TypeId} {size n : Nat} {A : Option Addr} {c : Nat} {xs : List Value} (h : OwnV w base e size A c n xs) : ∀ k, (Value.slice A n c).ownBlock = some k → base ≤ k := by
  intro k hk
  rcases h.2 with ⟨h2, _⟩ | ⟨g, cap, cur, hv, hg, _⟩
  · rw [h2] at hk; cases hk
  · injection hv with hA; subst hA
    simp [Value.ownBlock] at hk; omega
theorem OwnV.row_is {w : World} {base : Nat} {e : TypeId} {size n : Nat} {A : Option Addr} {c : Nat} {xs : List Value} (h : OwnV w base e size A c n xs) : A = none ∧ n = 0 ∧ c = 0 ∧ xs = [] ∨ ∃ g cur, A = some ⟨g, 0, none⟩ ∧ base ≤ g ∧ Blk w g e cur ∧ cur.toList.take (n * size) = xs ∧ n ≤ c := by
  rcases h.2 with ⟨h2, h3⟩ | ⟨g, cap, cur, hv, hg, hh, h3, h4, h5, h6⟩
  · injection h2 with h2 h4 h5
    exact .inl ⟨h2, h4, h5, List.eq_nil_of_length_eq_zero (by rw [h.1, h3]; simp)⟩
  · injection hv with e1 e2 e3
    exact .inr ⟨g, cur, e1, hg, hh, h6, by omega⟩
theorem OwnV.below {w w' : World} {base : Nat} {e : TypeId} {size n : Nat} {A : Option Addr} {c : Nat} {xs : List Value} (h : OwnV w base e size A c n xs) (hb : Below w.heap.size w w') : OwnV w' base e size A c n xs := by
  obtain ⟨h1, h2⟩ := h
  refine ⟨h1, ?_⟩
  rcases h2 with h2 | ⟨g, cap, cur, hv, hg, hh, r⟩
  · exact .inl h2
  · refine .inr ⟨g, cap, cur, hv, hg, ?_, r⟩
    rw [hb.block g (Blk.lt hh)]; exact hh
/-- It is left alone where another row is written. -/
theorem OwnV.grown {w w' : World} {base : Nat} {e : TypeId} {size n : Nat} {A : Option Addr} {c : Nat} {xs : List Value} {row : Option Nat} (h : OwnV w base e size A c n xs) (hg : w.grownBy w' row) (hne : ∀ g cur, Blk w g e cur → row ≠ some g) : OwnV w' base e size A c n xs := by
  obtain ⟨h1, h2⟩ := h
  refine ⟨h1, ?_⟩
  rcases h2 with h2 | ⟨g, cap, cur, hv, hb, hh, r⟩
  · exact .inl h2
  · refine .inr ⟨g, cap, cur, hv, hb, ?_, r⟩
    rw [hg.block g (Blk.lt hh) (fun e => hne g cur hh e.symm)]; exact hh
/-- A row of bytes is left alone where a row of another element type is written. -/
theorem Own.grown {w w' : World} {base c : Nat} {A : Option Addr} {l : List Int} {row : Option Nat} (h : Own w base A c l) (hg : w.grownBy w' row) (hne : ∀ g cur, Blk w g 5 cur → row ≠ some g) : Own w' base A c l := OwnV.grown h hg hne
theorem OwnV.other {w : World} {base : Nat} {e t : TypeId} {size n : Nat} {A : Option Addr} {c : Nat} {xs : List Value} (h : OwnV w base e size A c n xs) (hne : e ≠ t) : ∀ g cur, Blk w g t cur → (Value.slice A n c).ownBlock ≠ some g := by
  intro g cur hg hrow
  rcases h.row_is with ⟨rfl, _⟩ | ⟨g', cur', rfl, _, hb, _⟩
  · cases hrow
  · simp [Value.ownBlock] at hrow
    subst hrow
    exact Blk.ne_ hb hg hne rfl
theorem OwnV.reads {w : World} {base : Nat} {e : TypeId} {size n : Nat} {A : Option Addr} {c : Nat} {xs : List Value} (h : OwnV w base e size A c n xs) : Reads w w.heap.size size A n xs := Reads.of_own h

/-- What a round reads of it. -/
theorem OwnV.at_ {w : World} {base : Nat} {e : TypeId} {n : Nat} {A : Option Addr} {c : Nat} {xs : List Value} (h : OwnV w base e 1 A c n xs) {j : Nat} (hj : j < n) : ∃ g u, A = some ⟨g, 0, none⟩ ∧ g < w.heap.size ∧ xs[j]? = some u ∧ w.cell? ⟨g, j, none⟩ = some u := by
  rcases h.row_is with ⟨_, rfl, _⟩ | ⟨g, cur, rfl, _, hb, htk, _⟩
  · omega
  · have hl : xs.length = n := by have := h.1; omega
    obtain ⟨u, hu⟩ : ∃ u, xs[j]? = some u := ⟨xs[j], List.getElem?_eq_getElem (by omega)⟩
    refine ⟨g, u, rfl, hb.lt, hu, ?_⟩
    rw [hb.cell, ← Array.getElem?_toList, ← hu, ← htk, List.getElem?_take, if_pos (by omega)]
theorem wpList_appV {ops : Array Oper} {rest : List Oper} {o : Oper} {a : Act} {w : World} {Q : Exit → Act → World → Prop} (hgd : o.guard = none) (s x : Operand) (T E : TypeId) (size bytes : Nat) (z : Value)
    (ho : o.op = .call { callee := .builtin .append, args := #[s, x], argTypes := #[T, T] }) (hT : Tryd.prog.underlying T = some (.slice E))
    (hinfo : (Tryd.prog.info? E).map (fun i => (i.zero, i.size, i.bytes)) = some (some z, size, bytes)) (hzs : z.cells.size = size) (hsz : 0 < size)
    (base : Nat) {c d n m : Nat} {A B : Option Addr} {xs news : List Value} (hs : a.eval s = .slice A n c) (hx : a.eval x = .slice B m d) (hown : OwnV w base E size A c n xs) (hr : Reads w w.heap.size size B m news)
    (h1 : ∀ u ∈ news, u.oneCell' = true) (h63 : n + m ≤ maxLen) (hbytes : (n + m) * bytes ≤ 140737488355328) (hbase : base ≤ w.heap.size)
    (h : ∀ A' c' w', OwnV w' base E size A' c' (n + m) (xs ++ news) → w.grownBy w' (Value.slice A n c).ownBlock → Below base w w' →
      wpList Tryd.prog ops Q rest (a.put o.dst (.slice A' (n + m) c')) w') : wpList Tryd.prog ops Q (o :: rest) a w :=
  wpList_plain hgd fun K hK => by
    obtain ⟨i0, hi0, hz0, hz1, hz2⟩ := info_parts hinfo
    obtain ⟨v', w', hrun, h2, h3, h4⟩ := run_append_any (P := Tryd.prog) w base T o.type E i0 _ size bytes hT hi0 hz0 hz1 hz2 hzs hsz _ _ _ hown _ B _ d _ hr h1 h63 hbytes hbase
    unfold Oper.wp execOp
    simp only [ho, resolve, invoke, builtin, Sem.run_bind, Sem.run_pure, Result.andThen_ok, List.map_toArray, List.map_cons, List.map_nil, hs, hx, hrun]
    have hform : ∃ A' c', v' = .slice A' (n + m) c' := by
      rcases h2.2 with ⟨rfl, h0⟩ | ⟨g, cap, cur, rfl, _⟩
      · exact ⟨none, 0, by rw [h0]⟩
      · exact ⟨_, _, rfl⟩
    obtain ⟨A', c', rfl⟩ := hform
    exact hK _ _ (h A' c' w' h2 h3 ((Below.refl _ _).grown h3 hbase hown.row_ge))
end Go.Proofs.YtjibbegdieiknaaDoor

/-
  The plain mathematics of SHA-256: words, rounds, the schedule. No Go, no program.
-/
namespace Go.Proofs.YtjibbegdieiknaaDoor

def W32 (x : Int) : Prop := 0 ≤ x ∧ x < 4294967296
/-- A word, turned to the left; to the right. -/
def rotl (x : Int) (s : Nat) : Int := bits .or .u32 (x * 2 ^ s % 4294967296) (x / 2 ^ (32 - s))
def rotr (x : Int) (s : Nat) : Int := bits .or .u32 (x / 2 ^ s) (x * 2 ^ (32 - s) % 4294967296)
def wS1 (e : Int) : Int := bits .xor .u32 (bits .xor .u32 (rotr e 6) (rotr e 11)) (rotr e 25)
def wS0 (a : Int) : Int := bits .xor .u32 (bits .xor .u32 (rotr a 2) (rotr a 13)) (rotr a 22)
def wch (e f g : Int) : Int := bits .or .u32 (bits .and .u32 e f) (bits .and .u32 (bits .xor .u32 IntKind.u32.max e) g)
def wmaj (a b c : Int) : Int := bits .or .u32 (bits .or .u32 (bits .and .u32 a b) (bits .and .u32 a c)) (bits .and .u32 b c)
def ws0 (x : Int) : Int := bits .xor .u32 (bits .xor .u32 (rotr x 7) (rotr x 18)) (x / 2 ^ 3)
def ws1 (x : Int) : Int := bits .xor .u32 (bits .xor .u32 (rotr x 17) (rotr x 19)) (x / 2 ^ 10)
theorem W32.nat {x : Int} (h : W32 x) : ∃ n : Nat, x = n ∧ n < 4294967296 := ⟨x.toNat, by have := h.1; omega, by have := h.1; have := h.2; omega⟩
theorem W32.ofNat {n : Nat} (h : n < 4294967296) : W32 (n : Int) := ⟨by omega, by omega⟩
theorem W32.mod (x : Int) : W32 (x % 4294967296) := ⟨Int.emod_nonneg _ (by omega), Int.emod_lt_of_pos _ (by omega)⟩
theorem W32.div {x : Int} (h : W32 x) (s : Nat) : W32 (x / 2 ^ s) := by
  obtain ⟨n, rfl, hn⟩ := h.nat
  have e : ((n : Int) / 2 ^ s) = ((n / 2 ^ s : Nat) : Int) := by simp
  rw [e]
  exact W32.ofNat (Nat.lt_of_le_of_lt (Nat.div_le_self _ _) hn)
theorem W32.xor {x y : Int} (hx : W32 x) (hy : W32 y) : W32 (bits .xor .u32 x y) := by
  obtain ⟨a, rfl, ha⟩ := hx.nat
  obtain ⟨b, rfl, hb⟩ := hy.nat
  rw [u32_xor_nat a b ha hb]
  exact W32.ofNat (Nat.xor_lt_two_pow (n := 32) ha hb)
theorem W32.or {x y : Int} (hx : W32 x) (hy : W32 y) : W32 (bits .or .u32 x y) := by
  obtain ⟨a, rfl, ha⟩ := hx.nat
  obtain ⟨b, rfl, hb⟩ := hy.nat
  rw [u32_or_nat a b ha hb]
  exact W32.ofNat (Nat.or_lt_two_pow (n := 32) ha hb)
theorem W32.and {x y : Int} (hx : W32 x) (hy : W32 y) : W32 (bits .and .u32 x y) := by
  obtain ⟨a, rfl, ha⟩ := hx.nat
  obtain ⟨b, rfl, hb⟩ := hy.nat
  rw [u32_and_nat a b ha hb]
  exact W32.ofNat (Nat.and_lt_two_pow (n := 32) _ hb)
theorem or_comm32 {x y : Int} (hx : W32 x) (hy : W32 y) : bits .or .u32 x y = bits .or .u32 y x := by
  obtain ⟨a, rfl, ha⟩ := hx.nat
  obtain ⟨b, rfl, hb⟩ := hy.nat
  rw [u32_or_nat a b ha hb, u32_or_nat b a hb ha, Nat.or_comm]
theorem rotl_rotr {x : Int} (h : W32 x) {s t : Nat} (hst : 32 - s = t) (hts : 32 - t = s) : rotl x s = rotr x t := by
  unfold rotl rotr
  rw [hst, hts]
  exact or_comm32 (W32.mod _) (h.div _)
theorem W32.rotr {x : Int} (h : W32 x) (s : Nat) : W32 (rotr x s) := (h.div s).or (W32.mod _)
theorem max_u32 : IntKind.u32.max = ((4294967295 : Nat) : Int) := by decide
theorem testBit_max (i : Nat) : (4294967295 : Nat).testBit i = decide (i < 32) := Nat.testBit_two_pow_sub_one 32 i
theorem testBit_small {a : Nat} (ha : a < 4294967296) {i : Nat} (h : a.testBit i = true) : i < 32 := by
  rcases Nat.lt_or_ge i 32 with hi | hi
  · exact hi
  · rw [Nat.testBit_lt_two_pow (Nat.lt_of_lt_of_le ha (Nat.pow_le_pow_right (by omega) hi : 2 ^ 32 ≤ 2 ^ i))] at h; cases h
theorem pch_is {e f g : Int} (he : W32 e) (hf : W32 f) (hg : W32 g) :
    bits .xor .u32 (bits .and .u32 e f) (bits .and .u32 (bits .xor .u32 IntKind.u32.max e) g) = wch e f g := by
  obtain ⟨a, rfl, ha⟩ := he.nat
  obtain ⟨b, rfl, hb⟩ := hf.nat
  obtain ⟨c, rfl, hc⟩ := hg.nat
  unfold wch
  rw [max_u32, u32_xor_nat _ a (by omega) ha, u32_and_nat a b ha hb]
  have h1 : (4294967295 ^^^ a) < 4294967296 := Nat.xor_lt_two_pow (n := 32) (by omega) ha
  have h2 : (a &&& b) < 4294967296 := Nat.and_lt_two_pow (n := 32) _ hb
  rw [u32_and_nat _ c h1 hc]
  have h3 : ((4294967295 ^^^ a) &&& c) < 4294967296 := Nat.and_lt_two_pow (n := 32) _ hc
  rw [u32_xor_nat _ _ h2 h3, u32_or_nat _ _ h2 h3]
  congr 1
  apply Nat.eq_of_testBit_eq
  intro i
  simp only [Nat.testBit_xor, Nat.testBit_and, Nat.testBit_or, testBit_max]
  cases hi : a.testBit i
  · simp
  · simp [testBit_small ha hi]
theorem pmaj_is {a b c : Int} (wa : W32 a) (wb : W32 b) (wc : W32 c) :
    bits .xor .u32 (bits .xor .u32 (bits .and .u32 a b) (bits .and .u32 a c)) (bits .and .u32 b c) = wmaj a b c := by
  obtain ⟨a, rfl, ha⟩ := wa.nat
  obtain ⟨b, rfl, hb⟩ := wb.nat
  obtain ⟨c, rfl, hc⟩ := wc.nat
  unfold wmaj
  have h1 : (a &&& b) < 4294967296 := Nat.and_lt_two_pow (n := 32) _ hb
  have h2 : (a &&& c) < 4294967296 := Nat.and_lt_two_pow (n := 32) _ hc
  have h3 : (b &&& c) < 4294967296 := Nat.and_lt_two_pow (n := 32) _ hc
  have h4 : (a &&& b) ^^^ (a &&& c) < 4294967296 := Nat.xor_lt_two_pow (n := 32) h1 h2
  have h5 : (a &&& b) ||| (a &&& c) < 4294967296 := Nat.or_lt_two_pow (n := 32) h1 h2
  rw [u32_and_nat a b ha hb, u32_and_nat a c ha hc, u32_and_nat b c hb hc, u32_xor_nat _ _ h1 h2, u32_or_nat _ _ h1 h2, u32_xor_nat _ _ h4 h3, u32_or_nat _ _ h5 h3]
  congr 1
  apply Nat.eq_of_testBit_eq
  intro i
  simp only [Nat.testBit_xor, Nat.testBit_and, Nat.testBit_or]
  cases a.testBit i <;> cases b.testBit i <;> cases c.testBit i <;> rfl

/-- The constants. -/
def shaH : List Int := [0x6a09e667, 0xbb67ae85, 0x3c6ef372, 0xa54ff53a, 0x510e527f, 0x9b05688c, 0x1f83d9ab, 0x5be0cd19]
def shaK : List Int := [
  0x428a2f98, 0x71374491, 0xb5c0fbcf, 0xe9b5dba5, 0x3956c25b, 0x59f111f1, 0x923f82a4, 0xab1c5ed5,
  0xd807aa98, 0x12835b01, 0x243185be, 0x550c7dc3, 0x72be5d74, 0x80deb1fe, 0x9bdc06a7, 0xc19bf174,
  0xe49b69c1, 0xefbe4786, 0x0fc19dc6, 0x240ca1cc, 0x2de92c6f, 0x4a7484aa, 0x5cb0a9dc, 0x76f988da,
  0x983e5152, 0xa831c66d, 0xb00327c8, 0xbf597fc7, 0xc6e00bf3, 0xd5a79147, 0x06ca6351, 0x14292967,
  0x27b70a85, 0x2e1b2138, 0x4d2c6dfc, 0x53380d13, 0x650a7354, 0x766a0abb, 0x81c2c92e, 0x92722c85,
  0xa2bfe8a1, 0xa81a664b, 0xc24b8b70, 0xc76c51a3, 0xd192e819, 0xd6990624, 0xf40e3585, 0x106aa070,
  0x19a4c116, 0x1e376c08, 0x2748774c, 0x34b0bcb5, 0x391c0cb3, 0x4ed8aa4a, 0x5b9cca4f, 0x682e6ff3,
  0x748f82ee, 0x78a5636f, 0x84c87814, 0x8cc70208, 0x90befffa, 0xa4506ceb, 0xbef9a3f7, 0xc67178f2]

/-- The eight words. -/
structure St where
  a : Int
  b : Int
  c : Int
  d : Int
  e : Int
  f : Int
  g : Int
  h : Int
def St.list (s : St) : List Int := [s.a, s.b, s.c, s.d, s.e, s.f, s.g, s.h]
def St.ok (s : St) : Prop := W32 s.a ∧ W32 s.b ∧ W32 s.c ∧ W32 s.d ∧ W32 s.e ∧ W32 s.f ∧ W32 s.g ∧ W32 s.h
def stepR (s : St) (k x : Int) : St :=
  ⟨(s.h + wS1 s.e + wch s.e s.f s.g + k + x + wS0 s.a + wmaj s.a s.b s.c) % 4294967296, s.a, s.b, s.c, (s.d + (s.h + wS1 s.e + wch s.e s.f s.g + k + x)) % 4294967296, s.e, s.f, s.g⟩
def rnd (s0 : St) (ws : List Int) : Nat → St
  | 0 => s0
  | i + 1 => stepR (rnd s0 ws i) (shaK.getD i 0) (ws.getD i 0)
def St.add (s t : St) : St :=
  ⟨(s.a + t.a) % 4294967296, (s.b + t.b) % 4294967296, (s.c + t.c) % 4294967296, (s.d + t.d) % 4294967296, (s.e + t.e) % 4294967296, (s.f + t.f) % 4294967296, (s.g + t.g) % 4294967296, (s.h + t.h) % 4294967296⟩
def compr (s : St) (ws : List Int) : St := s.add (rnd s ws 64)
theorem stepR_ok {s : St} (h : s.ok) (k x : Int) : (stepR s k x).ok := ⟨W32.mod _, h.1, h.2.1, h.2.2.1, W32.mod _, h.2.2.2.2.1, h.2.2.2.2.2.1, h.2.2.2.2.2.2.1⟩
theorem rnd_ok {s : St} (h : s.ok) (ws : List Int) : ∀ i, (rnd s ws i).ok
  | 0 => h
  | i + 1 => stepR_ok (rnd_ok h ws i) _ _
theorem compr_ok (s : St) (ws : List Int) : (compr s ws).ok := ⟨W32.mod _, W32.mod _, W32.mod _, W32.mod _, W32.mod _, W32.mod _, W32.mod _, W32.mod _⟩
/-- The schedule of a block of bytes: its first n words. -/
def wat (b : List Int) (i : Nat) : Int := b.getD (4 * i) 0 * 16777216 + b.getD (4 * i + 1) 0 * 65536 + b.getD (4 * i + 2) 0 * 256 + b.getD (4 * i + 3) 0
def sch (b : List Int) : Nat → List Int
  | 0 => []
  | n + 1 => sch b n ++ [if n < 16 then wat b n else ((sch b n).getD (n - 16) 0 + ws0 ((sch b n).getD (n - 15) 0) + (sch b n).getD (n - 7) 0 + ws1 ((sch b n).getD (n - 2) 0)) % 4294967296]
theorem sch_length (b : List Int) : ∀ n, (sch b n).length = n
  | 0 => rfl
  | n + 1 => by rw [sch, List.length_append, sch_length b n]; rfl
theorem wat_ok {b : List Int} (hb : Bytes b) (i : Nat) : W32 (wat b i) := by
  have h : ∀ j, 0 ≤ b.getD j 0 ∧ b.getD j 0 < 256 := by
    intro j
    rw [List.getD]
    cases hj : b[j]? with
    | none => simp
    | some x => exact hb.at hj
  have h0 := h (4 * i)
  have h1 := h (4 * i + 1)
  have h2 := h (4 * i + 2)
  have h3 := h (4 * i + 3)
  unfold wat W32
  omega
theorem sch_ok {b : List Int} (hb : Bytes b) : ∀ n, ∀ x ∈ sch b n, W32 x
  | 0, _, h => by cases h
  | n + 1, x, h => by
    rw [sch] at h
    rcases List.mem_append.1 h with h | h
    · exact sch_ok hb n x h
    · simp only [List.mem_singleton] at h
      rw [h]
      split
      · exact wat_ok hb n
      · exact W32.mod _
theorem sch_set (b : List Int) (n : Nat) (h : n < 64) (x : Int) (hx : sch b (n + 1) = sch b n ++ [x]) : (sch b n ++ List.replicate (64 - n) 0).set n x = sch b (n + 1) ++ List.replicate (64 - (n + 1)) 0 := by
  obtain ⟨d, hd⟩ : ∃ d, 64 - n = d + 1 := ⟨64 - n - 1, by omega⟩
  rw [hd, show 64 - (n + 1) = d by omega, hx, List.set_append_right _ _ (by rw [sch_length]; omega), sch_length, Nat.sub_self, List.replicate_succ, List.set_cons_zero, List.append_assoc]
  rfl
/-- Four bytes, joined. -/
theorem join4 (a b c d : Int) (ha : 0 ≤ a ∧ a < 256) (hb : 0 ≤ b ∧ b < 256) (hc : 0 ≤ c ∧ c < 256) (hd : 0 ≤ d ∧ d < 256) :
    bits .or .u32 (bits .or .u32 (bits .or .u32 (a * 16777216) (b * 65536)) (c * 256)) d = a * 16777216 + b * 65536 + c * 256 + d := by
  have e1 : bits .or .u32 (a * 16777216) (b * 65536) = a * 16777216 + b * 65536 := by
    rw [u32_or _ _ (by omega) (by omega) (by omega) (by omega), nat_join 24 _ _ (by omega) (by omega)]; omega
  rw [e1]
  have e2 : bits .or .u32 (a * 16777216 + b * 65536) (c * 256) = a * 16777216 + b * 65536 + c * 256 := by
    rw [u32_or _ _ (by omega) (by omega) (by omega) (by omega), nat_join 16 _ _ (by omega) (by omega)]; omega
  rw [e2, u32_or _ _ (by omega) (by omega) (by omega) (by omega), nat_join 8 _ _ (by omega) (by omega)]
  omega
end Go.Proofs.YtjibbegdieiknaaDoor

/-
  Whole blocks, cells of integers, frames: what the walks of this seat have in common.
-/
namespace Go.Proofs.YtjibbegdieiknaaDoor
set_option maxRecDepth 100000
open Go.RowKit
set_option linter.unusedVariables false

def rotS (k : Int) : Nat := (bits .and .u64 (IntKind.u64.wrap k) 31).toNat
theorem rotS_is (k : Int) : bits .and .u64 (IntKind.u64.wrap k) 31 = (rotS k : Int) ∧ rotS k < 32 := by
  unfold rotS
  rw [IntKind.wrap_u64, u64_and _ _ (by omega) (by omega) (by omega) (by omega)]
  have : ((31 : Int).toNat) = 31 := rfl
  rw [this, nat_mask5]
  omega
set_option maxHeartbeats 400000 in
theorem rot_any (x k : Int) (w : World) (h0 : 0 ≤ x) (h1 : x < 4294967296) :
    Calls Tryd.prog 86 #[.int .u32 x, .int .i64 k] w fun e w' => e = .returned (.int .u32 (rotl x (rotS k))) ∧ w = w' := by
  obtain ⟨hk, hs⟩ := rotS_is k
  generalize rotS k = s at hk hs ⊢
  go_enter Tryd.func86, Tryd.ntmps86
  go_wp2
  go_ret
  exact ⟨rfl, rfl⟩

theorem Blk.store_i {w : World} {g : Nat} {t : TypeId} {k : IntKind} {l : List Int} (h : Blk w g t (IV k l).toArray) (i : Nat) (x : Int) : Blk (w.setCell ⟨g, i, none⟩ (.int k x)) g t (IV k (l.set i x)).toArray := by
  have := h.set_ i (.int k x)
  simpa [IV, List.map_set] using this
theorem Blk.cell_i {w : World} {g : Nat} {t : TypeId} {k : IntKind} {l : List Int} (h : Blk w g t (IV k l).toArray) {i : Nat} {x : Int} (hx : l[i]? = some x) : w.cell? ⟨g, i, none⟩ = some (.int k x) := by
  rw [h.cell]; simp [IV, hx]

theorem Blk.row {w : World} {g : Nat} {t : TypeId} {cs : Array Value} (h : Blk w g t cs) (cs' : Array Value) : Blk (w.setRow g cs') g t cs' := by
  unfold Blk at h ⊢
  simp [World.setRow, Array.getElem?_modify, h]
theorem only_drewN {a w : World} {row : Option Nat} (h : a.grownBy w row) (n : Nat) : a.grownBy (w.drewN n) row := ⟨h.os, h.tape, h.output, h.size, h.block⟩
theorem only_setCell {a w : World} {g : Nat} (h : a.grownBy w (some g)) {p : Addr} (hp : p.block = g ∨ a.heap.size ≤ p.block) (u : Value) : a.grownBy (w.setCell p u) (some g) :=
  ⟨h.os, h.tape, h.output, by simpa [World.setCell] using h.size, fun i hi hne => (Below.heap_setCell w p u i (by
    rintro rfl
    rcases hp with hp | hp
    · exact hne (by rw [hp])
    · omega)).trans (h.block i hi hne)⟩
theorem only_of_below {a w : World} (h : Below a.heap.size a w) (row : Option Nat) : a.grownBy w row := ⟨h.os, h.tape, h.output, h.size, fun i hi _ => h.block i hi⟩
theorem only_trans {a b c : World} {row : Option Nat} (h : a.grownBy b row) (k : b.grownBy c row) : a.grownBy c row :=
  ⟨k.os.trans h.os, k.tape.trans h.tape, k.output.trans h.output, Nat.le_trans h.size k.size, fun i hi hne => (k.block i (Nat.lt_of_lt_of_le hi h.size) hne).trans (h.block i hi hne)⟩
theorem only_setCells {a : World} {g : Nat} : ∀ (vs : List Value) (o : Nat) (w : World), a.grownBy w (some g) → a.grownBy (w.setCells g o vs) (some g)
  | [], _, _, h => h
  | v :: r, o, w, h => only_setCells r (o + 1) _ (only_setCell h (.inl rfl) v)

theorem blk_second (w : World) (o : Obj) (t : TypeId) (cs : Array Value) : Blk ((w.alloc o).alloc (.cells cs t)) (w.heap.size + 1) t cs := by
  have h := Blk.new (w.alloc o) t cs
  have e : (w.alloc o).heap.size = w.heap.size + 1 := by simp
  rw [e] at h
  exact h

theorem made_u8 (n : Nat) : madeCells #[Value.int .u8 0] n = (IV .u8 (List.replicate n 0)).toArray := by
  apply Array.ext
  · simp [size_madeCells, IV]
  · intro i h1 h2
    simp [madeCells, IV, Nat.mod_one]
theorem Blk.rd {w : World} {g : Nat} {t : TypeId} {l : List Int} (h : Blk w g t (IV .u8 l).toArray) : Rd w (some ⟨g, 0, none⟩) l :=
  ⟨by simp [U8], fun _ => ⟨_, rfl, h.lt, fun j u hu => by
    rw [Addr.add_mid, Nat.zero_add, h.cell]
    simpa [U8, IV] using hu⟩⟩
theorem Blk.sl {w : World} {g : Nat} {t : TypeId} {l : List Int} (h : Blk w g t (IV .u8 l).toArray) {n c : Nat} (hn : l.length = n) (hc : n ≤ c) (hm : c ≤ 9223372036854775807) : Sl w (some ⟨g, 0, none⟩) c l :=
  ⟨h.rd, by omega, hm, by intro h; cases h⟩
theorem Blk.range {w : World} {g : Nat} {t : TypeId} {cs : List Value} (h : Blk w g t cs.toArray) : w.rangeAt g 0 cs := fun j v hj => by
  rw [Nat.zero_add, h.cell]
  simpa using hj
theorem Blk.there_ {w : World} {g : Nat} {t : TypeId} {cs : Array Value} (h : Blk w g t cs) {n : Nat} (hn : n ≤ cs.size) : w.there g 0 n := fun j hj => by
  rw [Nat.zero_add]
  exact ⟨by rw [h.cell, Array.getElem?_eq_getElem (by omega)]; rfl, h.frozen j⟩
theorem Blk.setPut {g : Nat} {t : TypeId} : ∀ (vs : List Value) (o : Nat) (cs : List Value) (w : World), Blk w g t cs.toArray → o + vs.length ≤ cs.length → Blk (w.setCells g o vs) g t (cs.take o ++ vs ++ cs.drop (o + vs.length)).toArray
  | [], o, cs, w, h, _ => by simpa [World.setCells] using h
  | v :: r, o, cs, w, h, hl => by
    simp only [List.length_cons] at hl
    have h1 := h.set_ o v
    rw [List.setIfInBounds_toArray] at h1
    have h2 := Blk.setPut r (o + 1) (cs.set o v) _ h1 (by rw [List.length_set]; omega)
    have e : (cs.set o v).take (o + 1) ++ r ++ (cs.set o v).drop (o + 1 + r.length) = cs.take o ++ (v :: r) ++ cs.drop (o + (v :: r).length) := by
      rw [List.drop_set_of_lt (by omega), List.take_set, List.set_eq_take_append_cons_drop, if_pos (by rw [List.length_take]; omega), List.length_cons, show o + 1 + r.length = o + (r.length + 1) by omega]
      rw [List.take_take, Nat.min_eq_left (by omega), List.drop_of_length_le (by rw [List.length_take]; omega)]
      simp
    rw [e] at h2
    exact h2
theorem Blk.setAll {w : World} {g : Nat} {t : TypeId} {cs : Array Value} (h : Blk w g t cs) {vs : List Value} (hl : vs.length = cs.size) : Blk (w.setCells g 0 vs) g t vs.toArray := by
  have h1 := Blk.setPut vs 0 cs.toList w (by simpa using h) (by simp [hl])
  have e : cs.toList.take 0 ++ vs ++ cs.toList.drop (0 + vs.length) = vs := by
    rw [List.drop_of_length_le (by simp [hl])]
    simp
  rw [e] at h1
  exact h1
theorem below_setCells {B : Nat} {a w : World} (h : Below B a w) {g : Nat} (hg : B ≤ g) (hB : B ≤ w.heap.size) (o : Nat) (vs : List Value) : Below B a (w.setCells g o vs) :=
  h.grown (only_setCells vs o w (World.grownBy.refl w _)) hB (by rintro _ ⟨⟩; exact hg)
theorem grown_below {B : Nat} {a w w' : World} {g : Nat} (h : Below B a w) (hg : w.grownBy w' (some g)) (hB : B ≤ w.heap.size) (hr : B ≤ g) : Below B a w' := h.grown hg hB (by rintro _ ⟨⟩; exact hr)

theorem Sl.alloc {w : World} {A : Option Addr} {c : Nat} {l : List Int} (h : Sl w A c l) (o : Obj) : Sl (w.alloc o) A c l := h.below ((Below.refl _ _).alloc (Nat.le_refl _) _)
theorem bytes_cells {l : List Int} (h : Bytes l) : IV .u8 l = (l.map fun n : Int => UInt8.ofNat n.toNat).map Extern.Stop.cell := by
  unfold IV
  rw [List.map_map]
  refine List.map_congr_left fun x hx => ?_
  have := h x hx
  simp only [Function.comp, Extern.Stop.cell, UInt8.toNat_ofNat']
  congr 1
  show x = ((x.toNat % 2 ^ 8 : Nat) : Int)
  omega
/-- A slice literal of bytes, marked or not. -/
theorem lit_sl {w : World} (l : List Int) (fr : Nat × Nat) (hb : l.length ≤ 1000) {g n : Nat} (hg : g = w.heap.size) (hn : n = l.length) : Sl (w.alloc (.cells (IV .u8 l).toArray 5 fr)) (some ⟨g, 0, none⟩) n l := by
  subst hg
  subst hn
  refine ⟨⟨by simp [U8], fun _ => ⟨_, rfl, by simp, fun j u hu => ?_⟩⟩, Nat.le_refl _, by omega, by intro h; cases h⟩
  rw [Addr.add_mid, Nat.zero_add, World.cell?_alloc_mark]
  simpa [U8, IV] using hu

theorem zeros_bytes (n : Nat) : Bytes (List.replicate n 0) := by
  intro x hx
  rw [List.eq_of_mem_replicate hx]
  decide
theorem xor8 {a b : Int} (ha : 0 ≤ a ∧ a < 256) (hb : 0 ≤ b ∧ b < 256) : 0 ≤ bits .xor .u8 a b ∧ bits .xor .u8 a b < 256 := by
  obtain ⟨x, rfl⟩ := Int.eq_ofNat_of_zero_le ha.1
  obtain ⟨y, rfl⟩ := Int.eq_ofNat_of_zero_le hb.1
  rw [u8_xor_nat x y (by omega) (by omega)]
  have : x ^^^ y < 2 ^ 8 := Nat.xor_lt_two_pow (by omega) (by omega)
  omega
theorem arr64_len : Tryd.prog.arrayLen 93 = 64 := by kernel_rfl
theorem arr64_elem : Tryd.prog.elem 93 = 5 := by kernel_rfl
theorem zero64 (w : World) : (zeroValue 93).run Tryd.prog w = .ok (.agg (IV .u8 (List.replicate 64 0)).toArray) w := rfl
end Go.Proofs.YtjibbegdieiknaaDoor

/-
  math/bits.Mul64, walked.
-/
namespace Go.Proofs.YtjibbegdieiknaaDoor
open Go.RowKit

theorem mul_maskN (a : Nat) (ha : a < 18446744073709551616) : bits .and .u64 (a : Int) 4294967295 = ((a % 4294967296 : Nat) : Int) := by
  have h := bits_and_u64_nat a 4294967295 ha (by omega)
  have e : a &&& 4294967295 = a % 4294967296 := Nat.and_two_pow_sub_one_eq_mod a 32
  rw [e] at h
  exact h
theorem mul_divN (a : Nat) : (a : Int) / 4294967296 = ((a / 4294967296 : Nat) : Int) := by omega
theorem mul_mulN (a b : Nat) : (a : Int) * (b : Int) = ((a * b : Nat) : Int) := (Int.natCast_mul a b).symm
theorem mul_addN (a b : Nat) : (a : Int) + (b : Int) = ((a + b : Nat) : Int) := (Int.natCast_add a b).symm
theorem mul_wrapN (a : Nat) (ha : a < 18446744073709551616) : IntKind.u64.wrap (a : Int) = (a : Int) := by rw [IntKind.wrap_u64]; omega
theorem mul_wrapM (a : Nat) : IntKind.u64.wrap (a : Int) = ((a % 18446744073709551616 : Nat) : Int) := by rw [IntKind.wrap_u64]; omega

set_option maxHeartbeats 1000000 in
theorem mul64_any (x y : Nat) (hx : x < 18446744073709551616) (hy : y < 18446744073709551616) (w : World) :
    Calls Tryd.prog 102 #[.int .u64 x, .int .u64 y] w fun e w' => e = .returned (.tuple #[.int .u64 ((x * y / 18446744073709551616 : Nat) : Int), .int .u64 ((x * y % 18446744073709551616 : Nat) : Int)]) ∧ w = w' := by
  obtain ⟨bd, bt, bw, hhi⟩ := Lib.mul64_hi x y hx hy
  have ba := Lib.half_mul_le (a := x / 4294967296) (b := y / 4294967296) (by omega) (by omega)
  have bb := Lib.half_mul_le (a := x / 4294967296) (b := y % 4294967296) (by omega) (by omega)
  have bc := Lib.half_mul_le (a := x % 4294967296) (b := y / 4294967296) (by omega) (by omega)
  have ba' : x / 4294967296 * (y / 4294967296) < 18446744073709551616 := by omega
  have bb' : x / 4294967296 * (y % 4294967296) < 18446744073709551616 := by omega
  have bc' : x % 4294967296 * (y / 4294967296) < 18446744073709551616 := by omega
  have bh1 : x / 4294967296 * (y / 4294967296) + (x / 4294967296 * (y % 4294967296) + x % 4294967296 * (y % 4294967296) / 4294967296) / 4294967296 < 18446744073709551616 := by omega
  have bh : x / 4294967296 * (y / 4294967296) + (x / 4294967296 * (y % 4294967296) + x % 4294967296 * (y % 4294967296) / 4294967296) / 4294967296 + ((x / 4294967296 * (y % 4294967296) + x % 4294967296 * (y % 4294967296) / 4294967296) % 4294967296 + x % 4294967296 * (y / 4294967296)) / 4294967296 < 18446744073709551616 := by omega
  go_enter Tryd.func102, Tryd.ntmps102
  go_wp2
  simp only [mul_maskN x hx, mul_maskN y hy, mul_divN, mul_mulN, mul_addN, mul_wrapN _ bd, mul_wrapN _ bb', mul_wrapN _ bt, mul_maskN _ bt, mul_wrapN _ bc', mul_wrapN _ bw, mul_wrapN _ ba', mul_wrapN _ bh1, mul_wrapN _ bh, mul_wrapM (x * y)]
  rw [hhi]
  go_ret2
  exact ⟨rfl, rfl⟩
end Go.Proofs.YtjibbegdieiknaaDoor

/-
  Words of 64 bits: sums with their carries, products, and numbers of two and three words.
-/
namespace Go.Proofs.YtjibbegdieiknaaDoor
open Go.RowKit
set_option linter.unusedVariables false

theorem add64_run (x y c : Nat) (hc : c ≤ 1) (w : World) :
    (callFunc 87 #[.int .u64 x, .int .u64 y, .int .u64 c]).run Tryd.prog w = .ok (.value (.tuple #[.int .u64 (((x + y + c) % 18446744073709551616 : Nat) : Int), .int .u64 (((x + y + c) / 18446744073709551616 : Nat) : Int)])) w := by
  rw [run_callFunc_extern Tryd.func87 (by kernel_rfl) (by kernel_rfl) (by kernel_rfl) (e := add64Entry) (by kernel_rfl), run_add64 x y c (by omega) (by omega) (by omega) (by omega)]
  simp only [Result.andThen]
  congr 5 <;> omega
theorem add64_run0 (x y : Nat) (w : World) :
    (callFunc 87 #[.int .u64 x, .int .u64 y, .int .u64 0]).run Tryd.prog w = .ok (.value (.tuple #[.int .u64 (((x + y) % 18446744073709551616 : Nat) : Int), .int .u64 (((x + y) / 18446744073709551616 : Nat) : Int)])) w := by
  have h := add64_run x y 0 (by omega) w
  rw [Nat.add_zero] at h
  exact h

set_option maxHeartbeats 800000 in
theorem product_any (x y : Nat) (hx : x < 18446744073709551616) (hy : y < 18446744073709551616) (w : World) :
    Calls Tryd.prog 98 #[.int .u64 x, .int .u64 y] w fun e w' => e = .returned (.agg #[.int .u64 ((x * y % 18446744073709551616 : Nat) : Int), .int .u64 ((x * y / 18446744073709551616 : Nat) : Int)]) ∧ Below w.heap.size w w' := by
  have C := Lib.hid (fun W => mul64_any x y hx hy W)
  obtain ⟨lo, hlo⟩ : ∃ lo, lo = x * y % 18446744073709551616 := ⟨_, rfl⟩
  obtain ⟨hi, hhi⟩ : ∃ hi, hi = x * y / 18446744073709551616 := ⟨_, rfl⟩
  rw [← hlo, ← hhi] at C ⊢
  clear hlo hhi hx hy
  go_enter Tryd.func98, Tryd.ntmps98
  go_wp2_with fail
  refine (C.out _).mono ?_
  rintro e w' ⟨rfl, rfl⟩
  go_wp2_with fail
  refine bodyPost_ret (v := .agg #[.int .u64 lo, .int .u64 hi]) (by simp [results, Tryd.results98, go_sem]) rfl ⟨rfl, ?_⟩
  exact (Below.refl _ _).alloc (Nat.le_refl _) _

set_option maxHeartbeats 800000 in
theorem plus_any (a b c d : Nat) (ha : a < 18446744073709551616) (hc : c < 18446744073709551616) (w : World) :
    Calls Tryd.prog 78 #[.agg #[.int .u64 a, .int .u64 b], .agg #[.int .u64 c, .int .u64 d]] w fun e w' =>
      e = .returned (.agg #[.int .u64 (((a + c) % 18446744073709551616 : Nat) : Int), .int .u64 (((b + d + (a + c) / 18446744073709551616) % 18446744073709551616 : Nat) : Int)]) ∧ Below w.heap.size w w' := by
  obtain ⟨k, hk⟩ : ∃ k, k = (a + c) / 18446744073709551616 := ⟨_, rfl⟩
  have hk1 : k ≤ 1 := by omega
  have r0 := add64_run0 a c
  have r1 := add64_run b d k hk1
  rw [← hk] at r0 ⊢
  obtain ⟨lo, hlo⟩ : ∃ lo, lo = (a + c) % 18446744073709551616 := ⟨_, rfl⟩
  obtain ⟨hi, hhi⟩ : ∃ hi, hi = (b + d + k) % 18446744073709551616 := ⟨_, rfl⟩
  obtain ⟨k2, hk2⟩ : ∃ k2, k2 = (b + d + k) / 18446744073709551616 := ⟨_, rfl⟩
  rw [← hlo] at r0 ⊢
  rw [← hhi] at r1 ⊢
  rw [← hk2] at r1
  clear hk hlo hhi hk2 ha hc hk1
  go_enter Tryd.func78, Tryd.ntmps78
  go_wp2_with fail
  refine bodyPost_ret (v := .agg #[.int .u64 lo, .int .u64 hi]) (by simp [results, Tryd.results78, go_sem]) rfl ⟨rfl, ?_⟩
  exact (((Below.refl _ _).alloc (Nat.le_refl _) _).alloc (by simp) _).alloc (by simp; omega) _
end Go.Proofs.YtjibbegdieiknaaDoor
