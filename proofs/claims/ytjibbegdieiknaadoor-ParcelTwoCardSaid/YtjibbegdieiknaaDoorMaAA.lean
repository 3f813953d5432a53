/-
  Plain words for memory: a slice that reads as a list; bytes; the call's own rows; append onto them.
-/
import Derived.Test.YtjibbegdieiknaaDoorRows
import Derived.Deep.DeepMust
import Derived.WalkKit
import Derived.WalkSpells
import Derived.Lib.Hide
import Derived.StillTailTactics
import Derived.Maps.AppendAt
import Derived.Deep.AppendLies
import Derived.Deep.Draws
import Derived.Deep.QuietTactic
import Derived.BigQuiet
import Derived.Deep.RegionHeld3
import Derived.ProofKit
import Derived.OpenShut
import Derived.Lib.LaidTab
import Derived.Stop.LaidErr
import Derived.Stop.Joined
import Derived.LaidMore
import Derived.MakeChecks
import Derived.Deep.Slices
namespace Go.Proofs.YtjibbegdieiknaaDoor
open Go.RowKit

theorem block_of_add (a : Addr) (n : Nat) : (a.add n).block = a.block := by unfold Addr.add; split <;> rfl
theorem add_of_add (a : Addr) (i j : Nat) : (a.add i).add j = a.add (i + j) := by
  unfold Addr.add
  by_cases hi : i = 0 <;> by_cases hj : j = 0 <;> simp [hi, hj, Nat.add_assoc]

/-- The slice value '.slice A n c' holds the cells xs, below block B. -/
def Reads (w : World) (B size : Nat) (A : Option Addr) (n : Nat) (xs : List Value) : Prop :=
  xs.length = n * size ∧ (0 < n → ∃ ad, A = some ad ∧ ad.block < B ∧ ∀ j u, xs[j]? = some u → w.cell? (ad.add j) = some u)

section
variable {w w' : World} {B B' size n : Nat} {A : Option Addr} {xs : List Value}
theorem Reads.none_ : Reads w B size A 0 [] := ⟨by simp, fun h => absurd h (by omega)⟩
theorem Reads.at_ {k : Nat} (h : Reads w B 1 A n xs) (hk : k < n) : ∃ ad u, A = some ad ∧ ad.block < B ∧ xs[k]? = some u ∧ w.cell? (ad.add k) = some u := by
  obtain ⟨ad, e, hb, hc⟩ := h.2 (by omega)
  have hl : k < xs.length := by have := h.1; omega
  exact ⟨ad, xs[k], e, hb, List.getElem?_eq_getElem hl, hc k _ (List.getElem?_eq_getElem hl)⟩
theorem Reads.keep (h : Reads w B size A n xs) (hk : ∀ p : Addr, p.block < B → w'.cell? p = w.cell? p) : Reads w' B size A n xs :=
  ⟨h.1, fun hn => by
    obtain ⟨ad, e, hb, hc⟩ := h.2 hn
    exact ⟨ad, e, hb, fun j u hu => (hk _ (by rw [block_of_add]; exact hb)).trans (hc j u hu)⟩⟩
theorem Reads.more (h : Reads w B size A n xs) (hB : B ≤ B') : Reads w B' size A n xs :=
  ⟨h.1, fun hn => by
    obtain ⟨ad, e, hb, hc⟩ := h.2 hn
    exact ⟨ad, e, by omega, hc⟩⟩
theorem Reads.below (h : Reads w B size A n xs) (hb : Below B w w') : Reads w' B size A n xs := h.keep fun _ hp => hb.cell hp
theorem Reads.drew (h : Reads w B size A n xs) : Reads w.drew B size A n xs := h
theorem Reads.drewN (h : Reads w B size A n xs) (k : Nat) : Reads (w.drewN k) B size A n xs := h
theorem Reads.alloc (h : Reads w B size A n xs) (hB : B ≤ w.heap.size) (o : Obj) : Reads (w.alloc o) B size A n xs := h.keep fun p hp => World.cell?_alloc_lt w o p (by omega)
theorem Reads.setCell (h : Reads w B size A n xs) {p : Addr} (hB : B ≤ p.block) (u : Value) : Reads (w.setCell p u) B size A n xs :=
  h.keep fun q hq => World.cell?_setCell_other w p q u (fun e => by subst e; omega)
theorem Reads.grown (h : Reads w B size A n xs) {row : Option Nat} (hg : w.grownBy w' row) (hB : B ≤ w.heap.size) (hr : ∀ g, row = some g → B ≤ g) : Reads w' B size A n xs :=
  h.keep fun p hp => World.cell?_of_block (hg.block p.block (by omega) (fun e => by have := hr _ e.symm; omega))
theorem Reads.cut (h : Reads w B size A n xs) {k cap : Nat} (hk : k ≤ n) (hc : n ≤ cap) :
    Reads w B size (if cap = k then A else A.map (·.add (k * size))) (n - k) (xs.drop (k * size)) := by
  refine ⟨by rw [List.length_drop, h.1, Nat.sub_mul], fun hn => ?_⟩
  obtain ⟨ad, rfl, hb, hcell⟩ := h.2 (by omega)
  rw [if_neg (by omega)]
  refine ⟨ad.add (k * size), rfl, by rw [block_of_add]; exact hb, fun j u hu => ?_⟩
  rw [add_of_add]
  exact hcell _ u (by rw [← hu, List.getElem?_drop])
theorem Reads.upto (h : Reads w B size A n xs) {k : Nat} (hk : k ≤ n) : Reads w B size A k (xs.take (k * size)) := by
  refine ⟨by rw [List.length_take, h.1]; exact Nat.min_eq_left (Nat.mul_le_mul_right _ hk), fun hn => ?_⟩
  obtain ⟨ad, rfl, hb, hcell⟩ := h.2 (by omega)
  refine ⟨ad, rfl, hb, fun j u hu => hcell j u ?_⟩
  rw [List.getElem?_take] at hu
  split at hu
  · exact hu
  · cases hu
theorem Reads.of_own {base : Nat} {e : TypeId} {c : Nat} (h : w.ownsRow base e size (.slice A n c) n xs) : Reads w w.heap.size size A n xs := by
  refine ⟨h.1, fun hn => ?_⟩
  obtain ⟨g, cap, hv, _, hlt⟩ := h.form hn
  have hA : A = some ⟨g, 0, none⟩ := by injection hv
  subst hA
  exact ⟨_, rfl, hlt, h.cells (g := g) rfl⟩
end

def Blk (w : World) (g : Nat) (t : TypeId) (cs : Array Value) : Prop := w.heap[g]? = some (.cells cs t (0, 0))

section
variable {w w' : World} {g : Nat} {t : TypeId} {cs : Array Value}
theorem Blk.lt (h : Blk w g t cs) : g < w.heap.size := by
  rcases Nat.lt_or_ge g w.heap.size with hlt | hge
  · exact hlt
  · unfold Blk at h; rw [Array.getElem?_eq_none hge] at h; cases h
theorem Blk.cell (h : Blk w g t cs) (i : Nat) : w.cell? ⟨g, i, none⟩ = cs[i]? := cell_of_row w g i cs t (0, 0) h
theorem Blk.frozen (h : Blk w g t cs) (i : Nat) : w.frozen? ⟨g, i, none⟩ = false := by
  unfold Blk at h
  simp [World.frozen?, h]
theorem Blk.new (w : World) (t : TypeId) (cs : Array Value) : Blk (w.alloc (.cells cs t)) w.heap.size t cs := heap_alloc_new w _
theorem Blk.drew (h : Blk w g t cs) : Blk w.drew g t cs := h
theorem Blk.drewN (h : Blk w g t cs) (n : Nat) : Blk (w.drewN n) g t cs := h
theorem Blk.alloc (h : Blk w g t cs) (o : Obj) : Blk (w.alloc o) g t cs := (Below.heap_alloc w o g h.lt).trans h
theorem Blk.set_ (h : Blk w g t cs) (i : Nat) (u : Value) : Blk (w.setCell ⟨g, i, none⟩ u) g t (cs.setIfInBounds i u) := by
  unfold Blk at h ⊢
  simp [World.setCell, Array.getElem?_modify, h]
theorem Blk.far (h : Blk w g t cs) {p : Addr} (hp : g ≠ p.block) (u : Value) : Blk (w.setCell p u) g t cs := (Below.heap_setCell w p u g hp).trans h
theorem Blk.below {B : Nat} (h : Blk w g t cs) (hb : Below B w w') (hg : g < B) : Blk w' g t cs := (hb.block g hg).trans h
theorem Blk.grown {row : Option Nat} (h : Blk w g t cs) (hb : w.grownBy w' row) (hg : some g ≠ row) : Blk w' g t cs := (hb.block g h.lt hg).trans h
theorem Blk.ne_ {g' : Nat} {t' : TypeId} {cs' : Array Value} (h : Blk w g t cs) (h' : Blk w g' t' cs') (hne : t ≠ t') : g ≠ g' := by
  rintro rfl
  unfold Blk at h h'
  rw [h] at h'
  injection h' with h'
  injection h' with _ ht
  exact hne ht
/-- A whole block, as a row that is owned. -/
theorem Blk.own {base : Nat} (h : Blk w g t cs) (hb : base ≤ g) (hm : cs.size ≤ maxLen) {xs : List Value} (hx : cs.toList = xs) :
    w.ownsRow base t 1 (.slice (some ⟨g, 0, none⟩) xs.length xs.length) xs.length xs := by
  subst hx
  exact ⟨by simp, .inr ⟨g, _, cs, rfl, hb, h, Nat.le_refl _, by simpa using hm, by simp, List.take_of_length_le (by simp)⟩⟩
end

section
variable {P : Program} (w : World)

theorem run_append_of_nil (base : Nat) (t ty e : TypeId) (i : TypeInfo) (size : Nat) (ht : P.underlying t = some (.slice e)) (hi : P.info? e = some i)
    (v : Value) (n : Nat) (xs : List Value) (hown : w.ownsRow base e size v n xs) (c : Nat) : (Builtin.append_ #[t, t] ty #[v, .slice none 0 c]).run P w = .ok v w := by
  rcases hown.2 with ⟨rfl, rfl⟩ | ⟨g, cap, cur, rfl, _, _, hnc, _⟩
  · simp [Builtin.append_, run_underlying ht, sizeOf, typeInfo, hi, Builtin.lenOf, Builtin.firstCells]
  · simp [Builtin.append_, run_underlying ht, sizeOf, typeInfo, hi, Builtin.lenOf, Builtin.firstCells, hnc, storeCells]

theorem run_append_any (base : Nat) (t ty e : TypeId) (i : TypeInfo) (z : Value) (size bytes : Nat) (ht : P.underlying t = some (.slice e)) (hi : P.info? e = some i) (hz : i.zero = some z)
    (hsize : i.size = size) (hby : i.bytes = bytes) (hzs : z.cells.size = size) (hsz : 0 < size)
    (v : Value) (n : Nat) (xs : List Value) (hown : w.ownsRow base e size v n xs)
    (B : Nat) (A : Option Addr) (m c : Nat) (news : List Value) (hr : Reads w B size A m news) (h1 : ∀ u ∈ news, u.oneCell' = true)
    (h63 : n + m ≤ maxLen) (hbytes : (n + m) * bytes ≤ 140737488355328) (hbase : base ≤ w.heap.size) :
    ∃ v' w', (Builtin.append_ #[t, t] ty #[v, .slice A m c]).run P w = .ok v' w' ∧ w'.ownsRow base e size v' (n + m) (xs ++ news) ∧ w.grownBy w' v.ownBlock ∧
      (v'.ownBlock = v.ownBlock ∨ v'.ownBlock = some w.heap.size) := by
  rcases A with _ | ad
  · have hm : m = 0 := by
      rcases Nat.eq_zero_or_pos m with h0 | h0
      · exact h0
      · obtain ⟨ad, h, _⟩ := hr.2 h0
        cases h
    subst hm
    have hn : news = [] := List.eq_nil_of_length_eq_zero (by simpa using hr.1)
    subst hn
    exact ⟨v, w, run_append_of_nil w base t ty e i size ht hi v n xs hown c, by simpa using hown, World.grownBy.refl w _, .inl rfl⟩
  · have hcells : ∀ j u, news[j]? = some u → w.cell? (ad.add j) = some u := by
      intro j u hu
      rcases Nat.eq_zero_or_pos m with h0 | h0
      · subst h0
        have hn : news = [] := List.eq_nil_of_length_eq_zero (by simpa using hr.1)
        subst hn
        simp at hu
      · obtain ⟨ad', h, _, hc⟩ := hr.2 h0
        injection h with h
        subst h
        exact hc j u hu
    obtain ⟨v', w', hrun, h2, h3, _, h5⟩ := run_append_own_at (P := P) w base t ty e i z size bytes ht hi hz hsize hby hzs hsz v n xs hown ad m c news hr.1 hcells h1 h63 hbytes hbase
    exact ⟨v', w', hrun, h2, h3, h5⟩
end

/-- Bytes, as the values that lie in cells. -/
def U8 (l : List Int) : List Value := l.map (Value.int .u8)
def Bytes (l : List Int) : Prop := ∀ x ∈ l, 0 ≤ x ∧ x < 256

section
theorem U8_nil : U8 [] = [] := rfl
theorem U8_length (l : List Int) : (U8 l).length = l.length := by simp [U8]
theorem U8_append (a b : List Int) : U8 (a ++ b) = U8 a ++ U8 b := by simp [U8]
theorem U8_take (l : List Int) (n : Nat) : U8 (l.take n) = (U8 l).take n := by simp [U8]
theorem U8_drop (l : List Int) (n : Nat) : U8 (l.drop n) = (U8 l).drop n := by simp [U8]
theorem U8_oneCell (l : List Int) : ∀ u ∈ U8 l, u.oneCell' = true := by
  intro u hu
  simp only [U8, List.mem_map] at hu
  obtain ⟨x, _, rfl⟩ := hu
  rfl
theorem U8_at {l : List Int} {j : Nat} {u : Value} (h : (U8 l)[j]? = some u) : ∃ x, l[j]? = some x ∧ u = .int .u8 x := by
  simp only [U8, List.getElem?_map, Option.map_eq_some_iff] at h
  obtain ⟨x, hx, rfl⟩ := h
  exact ⟨x, hx, rfl⟩
theorem Bytes.nil : Bytes [] := fun _ h => by cases h
theorem Bytes.append {a b : List Int} (ha : Bytes a) (hb : Bytes b) : Bytes (a ++ b) := fun x hx => (List.mem_append.1 hx).elim (ha x) (hb x)
theorem Bytes.take {l : List Int} (h : Bytes l) (n : Nat) : Bytes (l.take n) := fun x hx => h x (List.mem_of_mem_take hx)
theorem Bytes.drop {l : List Int} (h : Bytes l) (n : Nat) : Bytes (l.drop n) := fun x hx => h x (List.mem_of_mem_drop hx)
theorem Bytes.at {l : List Int} (h : Bytes l) {j : Nat} {x : Int} (hx : l[j]? = some x) : 0 ≤ x ∧ x < 256 := h x (List.mem_of_getElem? hx)
theorem Bytes.cons {x : Int} {l : List Int} (h0 : 0 ≤ x) (h1 : x < 256) (h : Bytes l) : Bytes (x :: l) := fun y hy => by
  rcases List.mem_cons.1 hy with rfl | hy
  · exact ⟨h0, h1⟩
  · exact h y hy

/-- The slice '.slice A n c' reads as the bytes l in w. -/
def Rd (w : World) (A : Option Addr) (l : List Int) : Prop := Reads w w.heap.size 1 A l.length (U8 l)
/-- The slice '.slice A _ c' is a row of the call's own (from block 'base' on), whose bytes are l. -/
def Own (w : World) (base : Nat) (A : Option Addr) (c : Nat) (l : List Int) : Prop := w.ownsRow base 5 1 (.slice A l.length c) l.length (U8 l)

theorem Rd.of_own {w : World} {base c : Nat} {A : Option Addr} {l : List Int} (h : Own w base A c l) : Rd w A l := Reads.of_own h
theorem Rd.below {w w' : World} {A : Option Addr} {l : List Int} (h : Rd w A l) (hb : Below w.heap.size w w') : Rd w' A l := (Reads.below h hb).more hb.size
theorem Rd.alloc {w : World} {A : Option Addr} {l : List Int} (h : Rd w A l) (o : Obj) : Rd (w.alloc o) A l := (Reads.alloc h (Nat.le_refl _) o).more (by simp)
theorem Rd.drewN {w : World} {A : Option Addr} {l : List Int} (h : Rd w A l) (n : Nat) : Rd (w.drewN n) A l := h
theorem Rd.drew {w : World} {A : Option Addr} {l : List Int} (h : Rd w A l) : Rd w.drew A l := h
theorem Rd.nil (w : World) (A : Option Addr) : Rd w A [] := ⟨by simp [U8], fun h => absurd h (by simp)⟩
theorem Rd.cell {w : World} {b off : Nat} {l : List Int} (h : Rd w (some ⟨b, off, none⟩) l) {j : Nat} {x : Int} (hx : l[j]? = some x) : w.cell? ⟨b, off + j, none⟩ = some (.int .u8 x) := by
  have hl : j < l.length := by
    rcases Nat.lt_or_ge j l.length with h | h
    · exact h
    · rw [List.getElem?_eq_none h] at hx; cases hx
  obtain ⟨ad, e, _, hc⟩ := h.2 (by omega)
  injection e with e
  subst e
  have := hc j (.int .u8 x) (by simp [U8, hx])
  rw [← this]
  congr 1
  unfold Addr.add
  by_cases hj : j = 0 <;> simp [hj]
/-- Bytes that are there lie at a plain place. -/
theorem Rd.some_ {w : World} {A : Option Addr} {l : List Int} (h : Rd w A l) (hn : 0 < l.length) : ∃ b off, A = some ⟨b, off, none⟩ ∧ b < w.heap.size := by
  obtain ⟨ad, e, hb, hc⟩ := h.2 hn
  obtain ⟨b, off, spot⟩ := ad
  obtain ⟨x, hx⟩ : ∃ x, l[0]? = some x := ⟨l[0], List.getElem?_eq_getElem hn⟩
  have h0 := hc 0 (.int .u8 x) (by simp [U8, hx])
  have hs : spot = none := by simpa [Addr.add] using World.cell?_spot h0
  subst hs
  exact ⟨b, off, e, hb⟩
theorem Rd.cut {w : World} {A : Option Addr} {l : List Int} (h : Rd w A l) {k cap : Nat} (hk : k ≤ l.length) (hc : l.length ≤ cap) :
    Rd w (if cap = k then A else A.map (·.add (k * 1))) (l.drop k) := by
  have := Reads.cut h hk hc
  unfold Rd
  rw [U8_drop, List.length_drop]
  simpa using this
theorem Rd.upto {w : World} {A : Option Addr} {l : List Int} (h : Rd w A l) {k : Nat} (hk : k ≤ l.length) : Rd w A (l.take k) := by
  have := Reads.upto h hk
  unfold Rd
  rw [U8_take, List.length_take, Nat.min_eq_left hk]
  simpa using this

theorem Own.below {w w' : World} {base c : Nat} {A : Option Addr} {l : List Int} (h : Own w base A c l) (hb : Below w.heap.size w w') : Own w' base A c l := by
  obtain ⟨h1, h2⟩ := h
  refine ⟨h1, ?_⟩
  rcases h2 with h2 | ⟨g, cap, cur, hv, hg, hh, r⟩
  · exact .inl h2
  · refine .inr ⟨g, cap, cur, hv, hg, ?_, r⟩
    have hlt : g < w.heap.size := Blk.lt hh
    rw [hb.block g hlt]; exact hh
theorem Own.base_le {w : World} {base base' c : Nat} {A : Option Addr} {l : List Int} (h : Own w base A c l) (hb : base' ≤ base) : Own w base' A c l := by
  obtain ⟨h1, h2⟩ := h
  refine ⟨h1, ?_⟩
  rcases h2 with h2 | ⟨g, cap, cur, hv, hg, r⟩
  · exact .inl h2
  · exact .inr ⟨g, cap, cur, hv, Nat.le_trans hb hg, r⟩
theorem Own.nil (w : World) (base : Nat) : Own w base none 0 [] := ⟨by simp [U8], .inl ⟨rfl, rfl⟩⟩
theorem Own.cap {w : World} {base c : Nat} {A : Option Addr} {l : List Int} (h : Own w base A c l) : l.length ≤ c ∧ c ≤ maxLen := by
  rcases h.2 with ⟨h2, h3⟩ | ⟨g, cap, cur, hv, hg, hh, h3, h4, _⟩
  · injection h2 with _ h4 h5; subst h5; omega
  · injection hv with _ _ h5; subst h5; exact ⟨h3, h4⟩
/-- A block that was made, as the call's own row. -/
theorem Own.new {w : World} {g base : Nat} {l : List Int} (h : Blk w g 5 (U8 l).toArray) (hb : base ≤ g) (hm : l.length ≤ maxLen) : Own w base (some ⟨g, 0, none⟩) l.length l := by
  have := Blk.own (xs := U8 l) h hb (by simpa [U8] using hm) (by simp)
  unfold Own
  simpa [U8_length] using this
theorem Own.form {w : World} {base c : Nat} {A : Option Addr} {l : List Int} (h : Own w base A c l) (hn : 0 < l.length) : ∃ g, A = some ⟨g, 0, none⟩ ∧ base ≤ g ∧ g < w.heap.size := by
  obtain ⟨g, cap, hv, hb, hlt⟩ := World.ownsRow.form h hn
  exact ⟨g, by injection hv, hb, hlt⟩
theorem Own.row_ge {w : World} {base c : Nat} {A : Option Addr} {l : List Int} (h : Own w base A c l) : ∀ k, (Value.slice A l.length c).ownBlock = some k → base ≤ k := by
  intro k hk
  rcases h.2 with ⟨h2, _⟩ | ⟨g, cap, cur, hv, hg, _⟩
  · rw [h2] at hk; cases hk
  · injection hv with hA; subst hA
    simp [Value.ownBlock] at hk; omega
end
/-- The slice '.slice A l.length c' is whole, and reads as the bytes l. -/
structure Sl (w : World) (A : Option Addr) (c : Nat) (l : List Int) : Prop where
  rd : Rd w A l
  le : l.length ≤ c
  max : c ≤ 9223372036854775807
  nil : A = none → c = 0
theorem Sl.of_own {w : World} {base c : Nat} {A : Option Addr} {l : List Int} (h : Own w base A c l) : Sl w A c l := by
  have hc := h.cap
  refine ⟨Rd.of_own h, hc.1, by have := hc.2; unfold maxLen at this; omega, fun hA => ?_⟩
  rcases h.2 with ⟨h2, _⟩ | ⟨g, cap, cur, hv, _⟩
  · injection h2
  · subst hA; cases hv
theorem Sl.below {w w' : World} {A : Option Addr} {c : Nat} {l : List Int} (h : Sl w A c l) (hb : Below w.heap.size w w') : Sl w' A c l := ⟨h.rd.below hb, h.le, h.max, h.nil⟩
theorem Sl.none_ (w : World) : Sl w none 0 [] := ⟨Rd.nil _ _, by simp, by omega, fun _ => rfl⟩

end Go.Proofs.YtjibbegdieiknaaDoor

/-
  Append onto a row of bytes of the call's own; Copy, Cut, Clone, Same.
-/
namespace Go.Proofs.YtjibbegdieiknaaDoor
open Go.RowKit
set_option linter.unusedVariables false

theorem info_u8 : (Tryd.prog.info? 5).map (fun i => (i.zero, i.size, i.bytes)) = some (some (.int .u8 0), 1, 1) := by kernel_rfl

theorem run_app (w : World) (ty : TypeId) {base c d : Nat} {A B : Option Addr} {l news : List Int} (hown : Own w base A c l) (hr : Rd w B news)
    (hlen : l.length + news.length ≤ 70368744177664) (hbase : base ≤ w.heap.size) :
    ∃ A' c' w', (Builtin.append_ #[23, 23] ty #[.slice A l.length c, .slice B news.length d]).run Tryd.prog w = .ok (.slice A' (l.length + news.length) c') w' ∧
      Own w' base A' c' (l ++ news) ∧ w.grownBy w' (Value.slice A l.length c).ownBlock := by
  obtain ⟨i0, hi0, hz0, hz1, hz2⟩ := info_parts info_u8
  obtain ⟨v', w', h1, h2, h3, h4⟩ := run_append_any (P := Tryd.prog) w base 23 ty 5 i0 _ 1 1 Tryd.underlying23 hi0 hz0 hz1 hz2 rfl (by omega) _ _ _ hown _ B _ d _ hr (U8_oneCell _)
    (by unfold maxLen; omega) (by omega) hbase
  rcases h2.2 with ⟨rfl, h0⟩ | ⟨g, cap, cur, rfl, _⟩
  · have hl : l = [] := List.eq_nil_of_length_eq_zero (by omega)
    have hm : news = [] := List.eq_nil_of_length_eq_zero (by omega)
    subst hl; subst hm
    exact ⟨none, 0, w', h1, by simpa [Own, U8] using h2, h3⟩
  · refine ⟨_, _, w', h1, ?_, h3⟩
    unfold Own
    rw [U8_append, List.length_append]
    exact h2

theorem elem_u8 : Tryd.prog.elem 23 = 5 := by kernel_rfl
theorem run_sizeOf_u8 (w : World) : (sizeOf 5).run Tryd.prog w = .ok 1 w := by
  obtain ⟨i0, hi0, hz0, hz1, hz2⟩ := info_parts info_u8
  simp [sizeOf, typeInfo, hi0, hz1]
/-- 'p[k:]' -/
theorem slice_from (A : Option Addr) (c : Nat) (l : List Int) (k : Nat) (kd : IntKind) (hk : k ≤ l.length) (hc : l.length ≤ c) : ∃ A',
    (∀ w, (Instr.slice 23 (.slice A l.length c) (some (.int kd (k : Int))) none none).run Tryd.prog w = .ok (.slice A' (l.drop k).length (c - k)) w) ∧
    (∀ w, Rd w A l → Rd w A' (l.drop k)) ∧ (A' = none → A = none) := by
  refine ⟨if c = k then A else A.map (·.add (k * 1)), fun w => ?_, fun w h => h.cut hk hc, fun h => ?_⟩
  · rw [run_slice_l (P := Tryd.prog) w 23 A l.length c (by rw [elem_u8]; exact Tryd.underlying23) kd (k : Int) (by omega) (by omega), elem_u8]
    rw [run_sizeOf_u8]
    simp [sliced]
  · split at h
    · exact h
    · cases A with
      | none => rfl
      | some a => cases h

/-- 'p[:k]' -/
theorem slice_upto (A : Option Addr) (c : Nat) (l : List Int) (k : Nat) (kd : IntKind) (hk : k ≤ l.length) (hc : l.length ≤ c) : ∃ A',
    (∀ w, (Instr.slice 23 (.slice A l.length c) none (some (.int kd (k : Int))) none).run Tryd.prog w = .ok (.slice A' (l.take k).length c) w) ∧
    (∀ w, Rd w A l → Rd w A' (l.take k)) ∧ (A' = none → A = none) := by
  refine ⟨A, fun w => ?_, fun w h => h.upto hk, id⟩
  rw [run_slice_h (P := Tryd.prog) w 23 A l.length c (by rw [elem_u8]; exact Tryd.underlying23) kd (k : Int) (by omega) (by omega), elem_u8, run_sizeOf_u8]
  cases A <;> simp [sliced, Nat.min_eq_left hk, Addr.add]
/-- 'p[j:k]' -/
theorem slice_both (A : Option Addr) (c : Nat) (l : List Int) (j k : Nat) (kd kd' : IntKind) (hj : j ≤ k) (hk : k ≤ l.length) (hc : l.length ≤ c) : ∃ A',
    (∀ w, (Instr.slice 23 (.slice A l.length c) (some (.int kd (j : Int))) (some (.int kd' (k : Int))) none).run Tryd.prog w = .ok (.slice A' ((l.take k).drop j).length (c - j)) w) ∧
    (∀ w, Rd w A l → Rd w A' ((l.take k).drop j)) ∧ (A' = none → A = none) := by
  have hlen : (l.take k).length = k := by simp [hk]
  refine ⟨if c = j then A else A.map (·.add (j * 1)), fun w => ?_, fun w h => (h.upto hk).cut (by omega) (by omega), fun h => ?_⟩
  · rw [run_slice_lh (P := Tryd.prog) w 23 A l.length c (by rw [elem_u8]; exact Tryd.underlying23) kd kd' (j : Int) (k : Int) (by omega) (by omega) (by omega), elem_u8, run_sizeOf_u8]
    simp [sliced, Nat.min_eq_left hk]
  · split at h
    · exact h
    · cases A with
      | none => rfl
      | some a => cases h

theorem wpList_app {ops : Array Oper} {rest : List Oper} {o : Oper} {a : Act} {w : World} {Q : Exit → Act → World → Prop} (hgd : o.guard = none) (s x : Operand)
    (ho : o.op = .call { callee := .builtin .append, args := #[s, x], argTypes := #[23, 23] })
    (base : Nat) {c d : Nat} {A B : Option Addr} {l news : List Int} (hs : a.eval s = .slice A l.length c) (hx : a.eval x = .slice B news.length d) (hown : Own w base A c l) (hr : Rd w B news)
    (hlen : l.length + news.length ≤ 70368744177664) (hbase : base ≤ w.heap.size)
    (h : ∀ A' c' w', Own w' base A' c' (l ++ news) → w.grownBy w' (Value.slice A l.length c).ownBlock → Below base w w' →
      wpList Tryd.prog ops Q rest (a.put o.dst (.slice A' (l.length + news.length) c')) w') : wpList Tryd.prog ops Q (o :: rest) a w :=
  wpList_plain hgd fun K hK => by
    obtain ⟨A', c', w', hrun, h2, h3⟩ := run_app w o.type (d := d) hown hr hlen hbase
    unfold Oper.wp execOp
    simp only [ho, resolve, invoke, builtin, Sem.run_bind, Sem.run_pure, Result.andThen_ok, List.map_toArray, List.map_cons, List.map_nil, hs, hx, hrun]
    exact hK _ _ (h A' c' w' h2 h3 ((Below.refl _ _).grown h3 hbase hown.row_ge))


/-- An empty slice literal is a row of the call's own. -/
theorem own_lit0 (w : World) {base : Nat} (hb : base ≤ w.heap.size) : Own (w.alloc (.cells #[] 5)) base (some ⟨w.heap.size, 0, none⟩) 0 [] :=
  Own.new (Blk.new w _ _) hb (by simp [maxLen])

set_option maxHeartbeats 400000 in
theorem copy_any (A : Option Addr) (c : Nat) (l : List Int) (w : World) (hr : Rd w A l) (hl : l.length ≤ 70368744177664) :
    Calls Tryd.prog 14 #[.slice A l.length c] w fun e w' => ∃ A' c', e = .returned (.slice A' l.length c') ∧ Own w' w.heap.size A' c' l ∧ Below w.heap.size w w' := by
  go_enter Tryd.func14, Tryd.ntmps14
  go_wp2_with (at_builtin; go_must (refine wpList_app rfl (.tmp 3) (.tmp 4) rfl w.heap.size (l := []) (news := l) rfl rfl (own_lit0 w (Nat.le_refl _)) (hr.alloc _) (by simpa using hl) (by simp) ?_); intro A' c' w' hown hg hb)
  go_ret
  exact ⟨A', c', by simp, by simpa using hown, ((Below.refl _ _).alloc (Nat.le_refl _) _).trans hb⟩

set_option maxHeartbeats 400000 in
theorem cut_any (A : Option Addr) (c : Nat) (l : List Int) (k : Int) (w : World) (hr : Rd w A l) (hl : l.length ≤ 9223372036854775807) (hc : l.length ≤ c) (hk : 0 ≤ k) (hk1 : k ≤ 70368744177664) :
    Calls Tryd.prog 8 #[.slice A l.length c, .int .i64 k] w fun e w' =>
      ∃ A' c', e = .returned (.slice A' (l.take k.toNat).length c') ∧ Own w' w.heap.size A' c' (l.take k.toNat) ∧ Below w.heap.size w w' := by
  by_cases hkl : k < l.length
  · obtain ⟨n, rfl⟩ := Int.eq_ofNat_of_zero_le hk
    have hn : n ≤ l.length := by omega
    have ht : (l.take n).length = n := by simp [hn]
    have HT := Lib.hid ht
    clear ht
    go_enter Tryd.func8, Tryd.ntmps8
    go_wp2_with (at_builtin; go_must (refine wpList_app rfl (.tmp 5) (.tmp 11) rfl w.heap.size (l := []) (news := l.take n) (d := c) rfl (by rw [HT.out]; rfl) (own_lit0 w (Nat.le_refl _)) ((hr.upto hn).alloc _) (by rw [HT.out]; simp; omega) (by simp) ?_); intro A' c' w' hown hg hb)
    go_ret
    refine ⟨A', c', ?_, by simpa using hown, ((Below.refl _ _).alloc (Nat.le_refl _) _).trans hb⟩
    simp [HT.out]
  · have ht : l.take k.toNat = l := List.take_of_length_le (by omega)
    rw [ht]
    go_enter Tryd.func8, Tryd.ntmps8
    go_wp2_with (at_builtin; go_must (refine wpList_app rfl (.tmp 5) (.tmp 11) rfl w.heap.size (l := []) (news := l) (d := c) rfl rfl (own_lit0 w (Nat.le_refl _)) (hr.alloc _) (by simp; omega) (by simp) ?_); intro A' c' w' hown hg hb)
    go_ret
    exact ⟨A', c', by simp, by simpa using hown, ((Below.refl _ _).alloc (Nat.le_refl _) _).trans hb⟩

set_option maxHeartbeats 400000 in
theorem clone_any (A : Option Addr) (c : Nat) (l : List Int) (w : World) (hr : Rd w A l) (hl : l.length ≤ 70368744177664) (hA : A = none → l = [] ∧ c = 0) :
    Calls Tryd.prog 33 #[.slice A l.length c] w fun e w' => ∃ A' c', e = .returned (.slice A' l.length c') ∧ Own w' w.heap.size A' c' l ∧ Below w.heap.size w w' := by
  have qT := fun (w : World) (a : Option Addr) (n c : Nat) => Lib.run_eql_slice_nil (P := Tryd.prog) w _ _ a n c 0 0 Tryd.underlying23
  cases A with
  | none =>
    obtain ⟨rfl, rfl⟩ := hA rfl
    go_enter Tryd.func33, Tryd.ntmps33
    go_wp2
    go_ret
    exact ⟨none, 0, rfl, Own.nil _ _, Below.refl _ _⟩
  | some a =>
    clear hA
    go_enter Tryd.func33, Tryd.ntmps33
    go_wp2_with (at_builtin; go_must (refine wpList_app rfl (.tmp 5) (.tmp 6) rfl w.heap.size (l := []) (news := l) (d := c) rfl rfl (own_lit0 w (Nat.le_refl _)) (hr.alloc _) (by simpa using hl) (by simp) ?_); intro A' c' w' hown hg hb)
    go_ret
    exact ⟨A', c', by simp, by simpa using hown, ((Below.refl _ _).alloc (Nat.le_refl _) _).trans hb⟩

/-- Bytes as a string: the same just if they are. -/
theorem strOfNums_inj {a b : List Int} (ha : Bytes a) (hb : Bytes b) (h : strOfNums a = strOfNums b) : a = b := by
  have h1 : a.map (fun n : Int => UInt8.ofNat n.toNat) = b.map (fun n : Int => UInt8.ofNat n.toNat) := by rw [← strOfNums_data, ← strOfNums_data, h]
  have key : ∀ l : List Int, Bytes l → (l.map (fun n : Int => UInt8.ofNat n.toNat)).map (fun u : UInt8 => (u.toNat : Int)) = l := by
    intro l hl
    rw [List.map_map]
    conv => rhs; rw [← List.map_id l]
    refine List.map_congr_left fun x hx => ?_
    have := hl x hx
    simp only [Function.comp, id, UInt8.toNat_ofNat']
    omega
  rw [← key a ha, ← key b hb, h1]

def sameB (a b : List Int) : Bool := decide (a = b)

theorem run_str (w : World) (A : Option Addr) (c : Nat) {l : List Int} (h : Rd w A l) :
    (convert 23 9 (.slice A l.length c)).run Tryd.prog w = .ok (.string (strOfNums l)) w := by
  rcases Nat.eq_zero_or_pos l.length with h0 | h0
  · have : l = [] := List.eq_nil_of_length_eq_zero h0
    subst this
    cases A with
    | none => exact run_convert_bytes_nil w _ _ Tryd.underlying23 Tryd.underlying5 _ _ _ Tryd.underlying9
    | some a =>
      rw [run_convert_bytes_string w _ _ _ _ _ _ Tryd.underlying23 Tryd.underlying5 Tryd.underlying9]
      exact run_bytesToString w a 0 c [] (run_loadCells_list w a [] (fun j v hj => by simp at hj))
  · obtain ⟨b, off, rfl, _⟩ := h.some_ h0
    exact run_convert_bytes_arg w _ _ Tryd.underlying23 Tryd.underlying5 b off _ c l rfl (fun i hi => by
      rw [h.cell (List.getElem?_eq_getElem hi)]
      simp [List.getD, List.getElem?_eq_getElem hi]) _ Tryd.underlying9

theorem str_beq {a b : List Int} (h1 : Bytes a) (h2 : Bytes b) : ((strOfNums a).toList == (strOfNums b).toList) = sameB a b := by
  rw [ByteArray.toList_eq, ByteArray.toList_eq]
  unfold sameB
  by_cases h : a = b
  · subst h; simp
  · have : (strOfNums a).data.toList ≠ (strOfNums b).data.toList := fun e => h (strOfNums_inj h1 h2 (by
      have : (strOfNums a).data = (strOfNums b).data := Array.toList_inj.1 e
      cases ha : strOfNums a; cases hb : strOfNums b; simp_all))
    rw [beq_eq_false_iff_ne.2 this]; simp [h]

set_option maxHeartbeats 400000 in
theorem same_any (A B : Option Addr) (c d : Nat) (a b : List Int) (w : World) (ha : Rd w A a) (hb : Rd w B b) (h1 : Bytes a) (h2 : Bytes b) :
    Calls Tryd.prog 16 #[.slice A a.length c, .slice B b.length d] w fun e w' => e = .returned (.bool (sameB a b)) ∧ w = w' := by
  have e1 := run_str w A c ha
  have e2 := run_str w B d hb
  go_enter Tryd.func16, Tryd.ntmps16
  go_wp2_with fail
  go_ret
  refine ⟨?_, rfl⟩
  rw [← str_beq h1 h2]
  rfl
end Go.Proofs.YtjibbegdieiknaaDoor

/-
  From how an argument reads as data to the words of XWords.
-/
namespace Go.Proofs.YtjibbegdieiknaaDoor
open Go.ChangeShapes Go.WideShapes Go.ChangeAt Go.RowKit

theorem wf_u8 {n : Int} (h : (Lit.int .u8 n).wf = true) : 0 ≤ n ∧ n < 256 := by
  have := bounds_u8 h
  omega
theorem open_u8s {H : Type} {enc : TypeId × Value → H} {w : World} {base : Nat} {sp : Nat → Bool} {held : Bool} {a : Option Addr} {len cap fuel : Nat} {x : DataW H × List MemPlace}
    (h : DataW.trod enc Tryd.prog w base sp held fuel 23 [.slice a len cap] = some x) :
    ∃ l, Rd w a l ∧ Bytes l ∧ len = l.length ∧ l.length ≤ cap ∧ cap ≤ 9223372036854775807 ∧ (a = none → cap = 0) := by
  rcases open_ints Tryd.underlying23 Tryd.underlying5 (by kernel_rfl) h with ⟨hcs, _⟩ | ⟨ad, l, c, zs, hcs, _, hl, hm, hz, _, hcell, hwz⟩
  · simp at hcs
    obtain ⟨rfl, rfl, rfl⟩ := hcs
    exact ⟨[], Rd.nil _ _, Bytes.nil, rfl, by simp, by omega, fun _ => rfl⟩
  · simp at hcs
    obtain ⟨rfl, rfl, rfl⟩ := hcs
    have hlz : len ≤ zs.length := by rw [hz]; split <;> omega
    refine ⟨zs.take len, ⟨by simp [U8], fun hn => ⟨ad, rfl, ?_, fun j u hu => ?_⟩⟩, fun n hn => wf_u8 (hwz n (List.mem_of_mem_take hn)), by simp; omega, by simp; omega, by unfold maxLen at hm; omega, fun h => by cases h⟩
    · have h0 : 0 < zs.length := by simp at hn; omega
      have := hcell 0 h0
      have hb := World.block_lt_of_cell? w _ this
      rwa [block_of_add] at hb
    · obtain ⟨y, hy, rfl⟩ := U8_at hu
      rw [List.getElem?_take] at hy
      split at hy
      · have hj : j < zs.length := by
          rcases Nat.lt_or_ge j zs.length with h | h
          · exact h
          · rw [List.getElem?_eq_none h] at hy; cases hy
        rw [hcell j hj]
        simp [List.getD, hy]
      · cases hy
/-- A value that reads as a slice of bytes. -/
theorem open_u8v {H : Type} {enc : TypeId × Value → H} {w : World} {base : Nat} {sp : Nat → Bool} {held : Bool} {v : Value} {fuel : Nat} {x : DataW H × List MemPlace}
    (h : DataW.trod enc Tryd.prog w base sp held fuel 23 [v] = some x) : ∃ t : Option Addr × Nat × List Int, v = .slice t.1 t.2.2.length t.2.1 ∧ Sl w t.1 t.2.1 t.2.2 ∧ Bytes t.2.2 := by
  have hv : ∃ a len cap, v = .slice a len cap := by
    rcases open_ints Tryd.underlying23 Tryd.underlying5 (by kernel_rfl) h with ⟨hcs, _⟩ | ⟨ad, l, c, zs, hcs, _⟩
    · exact ⟨none, 0, 0, by simpa using hcs⟩
    · exact ⟨some ad, l, c, by simpa using hcs⟩
  obtain ⟨a, len, cap, rfl⟩ := hv
  obtain ⟨l, h1, h2, rfl, h3, h4, h5⟩ := open_u8s h
  exact ⟨(a, cap, l), rfl, ⟨h1, h3, h4, h5⟩, h2⟩
/-- A slice of slices of bytes: each its address, its room, its bytes. -/
def BV (x : Option Addr × Nat × List Int) : Value := .slice x.1 x.2.2.length x.2.1
structure RdBs (w : World) (A : Option Addr) (xs : List (Option Addr × Nat × List Int)) : Prop where
  row : Reads w w.heap.size 1 A xs.length (xs.map BV)
  each : ∀ x ∈ xs, Sl w x.1 x.2.1 x.2.2 ∧ Bytes x.2.2
theorem RdBs.below {w w' : World} {A : Option Addr} {xs : List (Option Addr × Nat × List Int)} (h : RdBs w A xs) (hb : Below w.heap.size w w') : RdBs w' A xs :=
  ⟨(Reads.below h.row hb).more hb.size, fun x hx => ⟨(h.each x hx).1.below hb, (h.each x hx).2⟩⟩
theorem RdBs.at_ {w : World} {A : Option Addr} {xs : List (Option Addr × Nat × List Int)} (h : RdBs w A xs) {j : Nat} (hj : j < xs.length) :
    ∃ b off, A = some ⟨b, off, none⟩ ∧ b < w.heap.size ∧ w.cell? ⟨b, off + j, none⟩ = some (BV xs[j]) := by
  obtain ⟨ad, u, rfl, hb, hu, hc⟩ := h.row.at_ hj
  simp only [List.getElem?_map, List.getElem?_eq_getElem hj, Option.map_some, Option.some.injEq] at hu
  subst hu
  obtain ⟨b, off, spot⟩ := ad
  have hs : spot = none := by
    obtain ⟨ad', u', e', _, _, hc'⟩ := h.row.at_ (k := 0) (by omega)
    injection e' with e'
    subst e'
    simpa [Addr.add] using World.cell?_spot hc'
  subst hs
  refine ⟨b, off, rfl, hb, ?_⟩
  rw [← hc]
  congr 1
  unfold Addr.add
  by_cases h0 : j = 0 <;> simp [h0]
theorem open_bss {H : Type} {enc : TypeId × Value → H} {w : World} {base : Nat} {sp : Nat → Bool} {held : Bool} {a : Option Addr} {len cap fuel : Nat} {x : DataW H × List MemPlace}
    (h : DataW.trod enc Tryd.prog w base sp held fuel 108 [.slice a len cap] = some x) :
    ∃ xs, RdBs w a xs ∧ len = xs.length ∧ xs.length ≤ cap ∧ cap ≤ 9223372036854775807 ∧ (a = none → cap = 0) := by
  rcases Deep.open_slice1 Tryd.underlying108 (by kernel_rfl) h with ⟨hcs, _⟩ | ⟨ad, l, c, m, n, V, D, Pl, hcs, _, hl, hm, hmm, _, hcell⟩
  · simp at hcs
    obtain ⟨rfl, rfl, rfl⟩ := hcs
    exact ⟨[], ⟨⟨by simp, fun h => absurd h (by simp)⟩, (fun _ h => by cases h)⟩, rfl, by simp, by omega, fun _ => rfl⟩
  · simp at hcs
    obtain ⟨rfl, rfl, rfl⟩ := hcs
    have hlm : len ≤ m := by rw [hmm]; split <;> omega
    obtain ⟨f, hf⟩ := Deep.choose_lt (n := len) (p := fun i (t : Option Addr × Nat × List Int) => V i = .slice t.1 t.2.2.length t.2.1 ∧ Sl w t.1 t.2.1 t.2.2 ∧ Bytes t.2.2) fun i hi => open_u8v (hcell i (by omega)).2
    refine ⟨(List.range len).map f, ⟨⟨by simp, fun hn => ⟨ad, rfl, ?_, fun j u hu => ?_⟩⟩, fun y hy => ?_⟩, by simp, by simpa using hl, by unfold maxLen at hm; omega, fun h => by cases h⟩
    · have h0 : 0 < len := by simpa using hn
      have hb := World.block_lt_of_cell? w _ (hcell 0 (by omega)).1
      rwa [block_of_add] at hb
    · have hj : j < len := by
        rcases Nat.lt_or_ge j len with h | h
        · exact h
        · rw [List.getElem?_eq_none (by simpa using h)] at hu; cases hu
      simp [hj] at hu
      rw [← hu, (hcell j (by omega)).1, (hf j hj).1]
      rfl
    · simp only [List.mem_map, List.mem_range] at hy
      obtain ⟨i, hi, rfl⟩ := hy
      exact (hf i hi).2
end Go.Proofs.YtjibbegdieiknaaDoor
