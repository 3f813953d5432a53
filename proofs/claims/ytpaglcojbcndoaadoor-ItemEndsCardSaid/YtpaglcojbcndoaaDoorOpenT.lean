/-
  A slice of elements of several cells each, as an argument: whatever the element.
-/
import Derived.Test.YtpaglcojbcndoaaDoorOpen
import Derived.Deep.Slices
namespace Go.Proofs.YtpaglcojbcndoaaDoor
open Go.ChangeShapes Go.WideShapes Go.ChangeAt Go.RowKit
set_option linter.unusedVariables false

theorem add_none (b off j : Nat) : (⟨b, off, none⟩ : Addr).add j = ⟨b, off + j, none⟩ := by
  unfold Addr.add
  by_cases h : j = 0 <;> simp [h]
/-- The slice at A reads as these, each of n cells. -/
structure RdT {α : Type} (n : Nat) (cells : α → List Value) (ok : α → Prop) (w : World) (A : Option Addr) (xs : List α) : Prop where
  row : xs.length = 0 ∨ ∃ b off, A = some ⟨b, off, none⟩ ∧ b < w.heap.size ∧ ∀ i j, i < xs.length → j < n → w.cell? ⟨b, off + (i * n + j), none⟩ = (xs[i]?.bind fun x => (cells x)[j]?)
  each : ∀ x ∈ xs, ok x
section
variable {α : Type} {n : Nat} {cells : α → List Value} {ok : α → Prop} {w w' : World} {A : Option Addr} {xs : List α}
theorem RdT.nil (n : Nat) (cells : α → List Value) (ok : α → Prop) (w : World) (A : Option Addr) : RdT n cells ok w A [] := ⟨.inl rfl, (fun _ h => by cases h)⟩
theorem RdT.keep (h : RdT n cells ok w A xs) (hs : w.heap.size ≤ w'.heap.size) (hb : ∀ p : Addr, p.block < w.heap.size → w'.cell? p = w.cell? p) : RdT n cells ok w' A xs := by
  refine ⟨?_, h.each⟩
  rcases h.row with h0 | ⟨b, off, e, hlt, hc⟩
  · exact .inl h0
  · refine .inr ⟨b, off, e, Nat.lt_of_lt_of_le hlt hs, fun i j hi hj => ?_⟩
    rw [← hc i j hi hj]
    exact hb ⟨b, off + (i * n + j), none⟩ hlt
theorem RdT.below (h : RdT n cells ok w A xs) (hb : Below w.heap.size w w') : RdT n cells ok w' A xs := h.keep hb.size fun p hp => hb.cell hp
theorem RdT.upto (h : RdT n cells ok w A xs) (k : Nat) : RdT n cells ok w A (xs.take k) := by
  refine ⟨?_, fun x hx => h.each x (List.mem_of_mem_take hx)⟩
  rcases h.row with h0 | ⟨b, off, e, hlt, hc⟩
  · exact .inl (by simp [h0])
  · refine .inr ⟨b, off, e, hlt, fun i j hi hj => ?_⟩
    have hi' : i < k ∧ i < xs.length := by simp at hi; omega
    rw [hc i j hi'.2 hj, List.getElem?_take, if_pos hi'.1]
theorem RdT.at_ (h : RdT n cells ok w A xs) {i : Nat} (hi : i < xs.length) :
    ∃ b off x, A = some ⟨b, off, none⟩ ∧ b < w.heap.size ∧ xs[i]? = some x ∧ ok x ∧ ∀ j, j < n → w.cell? ⟨b, off + i * n + j, none⟩ = (cells x)[j]? := by
  rcases h.row with h0 | ⟨b, off, e, hlt, hc⟩
  · omega
  · have hx : xs[i]? = some xs[i] := List.getElem?_eq_getElem hi
    refine ⟨b, off, xs[i], e, hlt, hx, h.each _ (List.getElem_mem hi), fun j hj => ?_⟩
    have := hc i j hi hj
    rw [hx] at this
    rw [Nat.add_assoc]
    exact this
end
theorem open_T {α : Type} {n : Nat} {cells : α → List Value} {ok : α → Prop} {T E : TypeId} (hT : Tryd.prog.underlying T = some (.slice E)) (hE : Tryd.prog.cellsOf E = n) (hn : 0 < n)
    {H : Type} {enc : TypeId × Value → H} {w : World} {base : Nat} {sp : Nat → Bool} {held : Bool} {a : Option Addr} {len cap fuel : Nat} {x : DataW H × List MemPlace} (dflt : α)
    (hone : ∀ {cs : List Value} {fuel : Nat} {y : DataW H × List MemPlace}, DataW.trod enc Tryd.prog w base sp held fuel E cs = some y → ∃ t : α, cs = cells t ∧ ok t)
    (h : DataW.trod enc Tryd.prog w base sp held fuel T [.slice a len cap] = some x) :
    ∃ xs, RdT n cells ok w a xs ∧ len = xs.length ∧ xs.length ≤ cap ∧ cap ≤ 9223372036854775807 ∧ (a = none → cap = 0) := by
  rcases Deep.open_slice hT h with ⟨hcs, _⟩ | ⟨ad, l, c, m, n', D, Pl, hcs, _, hl, hm, hmm, _, hcell⟩
  · simp at hcs
    obtain ⟨rfl, rfl, rfl⟩ := hcs
    exact ⟨[], RdT.nil _ _ _ _ _, rfl, by simp, by omega, fun _ => rfl⟩
  · simp at hcs
    obtain ⟨rfl, rfl, rfl⟩ := hcs
    have hlm : len ≤ m := by rw [hmm]; split <;> omega
    rw [hE] at hcell
    haveI : Inhabited α := ⟨dflt⟩
    obtain ⟨f, hf⟩ := Deep.choose_lt (n := len) (p := fun i (t : α) => w.cells? base (ad.add (i * n)) n = some (cells t) ∧ ok t) fun i hi => by
      obtain ⟨cs', h1, h2⟩ := hcell i (by omega)
      obtain ⟨t, rfl, ht⟩ := hone h2
      exact ⟨t, h1, ht⟩
    refine ⟨(List.range len).map f, ⟨?_, fun y hy => ?_⟩, by simp, by simpa using hl, by unfold maxLen at hm; omega, fun h => by cases h⟩
    · rcases Nat.eq_zero_or_pos len with h0 | h0
      · exact .inl (by simp [h0])
      · right
        obtain ⟨_, hlen0, hat0⟩ := World.cells?_some (hf 0 h0).1
        have hz := hat0 0 hn
        obtain ⟨u, hu⟩ : ∃ u, (cells (f 0))[0]? = some u := ⟨_, List.getElem?_eq_getElem (by omega)⟩
        rw [hu] at hz
        rw [add_of_add] at hz
        have hlt := World.block_lt_of_cell? w _ hz
        rw [block_of_add] at hlt
        obtain ⟨b, off, spot⟩ := ad
        have hs : spot = none := by simpa [Addr.add] using World.cell?_spot hz
        subst hs
        refine ⟨b, off, rfl, hlt, fun i j hi hj => ?_⟩
        have hi' : i < len := by simpa using hi
        obtain ⟨_, _, hat⟩ := World.cells?_some (hf i hi').1
        have hx := hat j hj
        rw [add_of_add] at hx
        have e : ((List.range len).map f)[i]? = some (f i) := by simp [hi']
        rw [e]
        rw [add_none] at hx
        exact hx
    · simp only [List.mem_map, List.mem_range] at hy
      obtain ⟨i, hi, rfl⟩ := hy
      exact (hf i hi).2

/-- A field or an element that is an integer: the value, its bounds. -/
theorem int_of_trod {H : Type} {enc : TypeId × Value → H} {w : World} {base : Nat} {sp : Nat → Bool} {held : Bool} {T : TypeId} {k : IntKind} (hT : Tryd.prog.underlying T = some (.int k)) {u : Value} {fuel : Nat} {y : DataW H × List MemPlace}
    (h : DataW.trod enc Tryd.prog w base sp held fuel T [u] = some y) : ∃ a : Int, u = .int k a ∧ (Lit.int k a).wf = true := by
  obtain ⟨a, e, _, wa⟩ := DataW.trod_int hT h
  injection e with e
  exact ⟨a, e, wa⟩
theorem bool_of_trod {H : Type} {enc : TypeId × Value → H} {w : World} {base : Nat} {sp : Nat → Bool} {held : Bool} {T : TypeId} (hT : Tryd.prog.underlying T = some .bool) {u : Value} {fuel : Nat} {y : DataW H × List MemPlace}
    (h : DataW.trod enc Tryd.prog w base sp held fuel T [u] = some y) : ∃ a : Bool, u = .bool a := by
  obtain ⟨a, e, _⟩ := DataW.trod_bool hT h
  injection e with e
  exact ⟨a, e⟩
theorem wf_u64 {n : Int} (h : (Lit.int .u64 n).wf = true) : 0 ≤ n ∧ n < 18446744073709551616 := by
  have := bounds_u64 h
  omega
theorem wf_i64 {n : Int} (h : (Lit.int .i64 n).wf = true) : -9223372036854775808 ≤ n ∧ n ≤ 9223372036854775807 := by
  have := bounds_i64 h
  omega
/-- An array of two words. -/
def PairC (p : Int × Int) : List Value := [.int .u64 p.1, .int .u64 p.2]
def PairOk (p : Int × Int) : Prop := (0 ≤ p.1 ∧ p.1 < 18446744073709551616) ∧ (0 ≤ p.2 ∧ p.2 < 18446744073709551616)
theorem list2 {α : Type} : ∀ (l : List α), l.length = 2 → ∃ a b, l = [a, b]
  | [a, b], _ => ⟨a, b, rfl⟩
end Go.Proofs.YtpaglcojbcndoaaDoor
