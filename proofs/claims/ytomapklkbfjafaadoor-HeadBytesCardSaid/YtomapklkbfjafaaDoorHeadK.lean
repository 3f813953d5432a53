/-
  HeadShort.
-/
import Derived.Test.YtomapklkbfjafaaDoorHeadJ
import Derived.Test.YtomapklkbfjafaaDoorAppZ
namespace Go.Proofs.YtomapklkbfjafaaDoor
open Go.RowKit
set_option linter.unusedVariables false

theorem short_model (f : Int) (r : List Int) (hf : f = 67 ∨ f = 71) :
    (r.length < 8 → rdErr (f :: r) = 2) ∧ (8 ≤ r.length → r.length < 28 → rdErr (f :: r) = 4) ∧ (28 ≤ r.length → rdErr (f :: r) = 0 ∧ rdAt (f :: r) = 9 ∧ hdV (f :: r) 0 = (r.length : Int) - 8) := by
  have hb : byteV (f :: r) 0 = f := rfl
  have hlt : f < 128 := by omega
  have hfix : fixOk f = true := by rcases hf with rfl | rfl <;> rfl
  have hn : needE 0 (f :: r).length 1 = 0 := by rw [needE, if_neg (by simp)]
  have hE1 : hdE1 (f :: r) 0 = 0 := by rw [hdE1, hb, hfix, hn]; rfl
  have hP1 : hdP1 (f :: r) 0 = r := by rw [hdP1, tkL, if_pos ⟨rfl, by simp⟩]; rfl
  have hE : hdE (f :: r) 0 = needE 0 r.length 8 := by rw [hdE, hb, if_pos hlt, shE, hE1, hP1]
  have hP : hdP (f :: r) 0 = tkL r 0 8 := by rw [hdP, hb, if_pos hlt, shL, hE1, hP1]
  have hV : hdV (f :: r) 0 = ((leftV (tkL r 0 8) (needE 0 r.length 8)).length : Int) := by rw [hdV, hb, if_pos hlt, shN, shL, shE, hE1, hP1]
  refine ⟨fun h => ?_, fun h1 h2 => ?_, fun h => ?_⟩
  · have e : needE 0 r.length 8 = 2 := by rw [needE, if_pos ⟨rfl, h⟩]
    rw [rdErr, hE, e, mustE, if_neg (by omega)]
  · have e : needE 0 r.length 8 = 0 := by rw [needE, if_neg (by omega)]
    have t : tkL r 0 8 = r.drop 8 := by rw [tkL, if_pos ⟨rfl, h1⟩]
    rw [rdErr, hE, hV, e, t, leftV, if_pos rfl, mustE, if_pos ⟨rfl, by simp; omega⟩]
  · have e : needE 0 r.length 8 = 0 := by rw [needE, if_neg (by omega)]
    have t : tkL r 0 8 = r.drop 8 := by rw [tkL, if_pos ⟨rfl, by omega⟩]
    have v : hdV (f :: r) 0 = (r.length : Int) - 8 := by rw [hV, e, t, leftV, if_pos rfl]; simp; omega
    have er : rdErr (f :: r) = 0 := by rw [rdErr, hE, v, e, mustE, if_neg (by simp; omega)]
    refine ⟨er, ?_, v⟩
    rw [rdAt, rdLeft, er, hP, t, leftV, if_pos rfl]
    simp
    omega
theorem short_nil : rdErr [] = 2 := rfl
theorem short_q (q : List Int) (h : q = [] ∨ ∃ f r, q = f :: r ∧ (f = 67 ∨ f = 71)) :
    (q.length < 9 → rdErr q = 2) ∧ (9 ≤ q.length → q.length < 29 → rdErr q = 4) ∧ (29 ≤ q.length → rdErr q = 0 ∧ rdAt q = 9 ∧ hdV q 0 = (q.length : Int) - 9) := by
  rcases h with rfl | ⟨f, r, rfl, hf⟩
  · exact ⟨fun _ => short_nil, fun h => absurd h (by simp), fun h => absurd h (by simp)⟩
  · obtain ⟨h1, h2, h3⟩ := short_model f r hf
    have hl : (f :: r).length = r.length + 1 := rfl
    refine ⟨fun h => h1 (by omega), fun h h' => h2 (by omega) (by omega), fun h => ?_⟩
    obtain ⟨e1, e2, e3⟩ := h3 (by omega)
    exact ⟨e1, e2, by rw [e3, hl]; omega⟩
theorem take_q (f : Int) (r Z : List Int) (k : Nat) (hf : f = 67 ∨ f = 71) : (f :: r ++ Z).take k = [] ∨ ∃ g s, (f :: r ++ Z).take k = g :: s ∧ (g = 67 ∨ g = 71) := by
  cases k with
  | zero => exact .inl rfl
  | succ m => exact .inr ⟨f, (r ++ Z).take m, rfl, hf⟩
theorem shortB_bytes (ph : Bool) (a : List Int) (pn : Int) (ha : Bytes a) : Bytes (shortB ph a pn) := by
  intro x hx
  unfold shortB at hx
  rcases List.mem_cons.1 hx with rfl | hx
  · cases ph <;> decide
  · rcases List.mem_append.1 hx with hx | hx
    · exact ha x hx
    · exact be_bytes _ _ x hx

theorem u64_range {n : Int} (h : (Lit.int .u64 n).wf = true) : 0 ≤ n ∧ n < 18446744073709551616 := by
  simp [Lit.wf, IntKind.min, IntKind.max, IntKind.signed, IntKind.bits] at h; omega
theorem u8_range' {n : Int} (h : (Lit.int .u8 n).wf = true) : 0 ≤ n ∧ n < 256 := by
  simp [Lit.wf, IntKind.min, IntKind.max, IntKind.signed, IntKind.bits] at h; omega

theorem Sl.upto {w : World} {A : Option Addr} {c : Nat} {l : List Int} (h : Sl w A c l) {k : Nat} (hk : k ≤ l.length) : Sl w A c (l.take k) :=
  ⟨h.rd.upto hk, Nat.le_trans (by rw [List.length_take]; omega) h.le, h.max, h.nil⟩
theorem run_app60 (w : World) (ty : TypeId) {base c : Nat} {A : Option Addr} {l : List Int} (k : Nat) (Z : List Int) (hk : k = 60) (hZ : Z = List.replicate k 0) (z : Int) (hz : z = 60) (hown : Own w base A c l)
    (hlen : l.length = 13) (hbase : base ≤ w.heap.size) :
    ∃ A' c' w', (Builtin.append_ #[22, 3] ty #[.slice A l.length c, .int .i64 z]).run Tryd.prog w = .ok (.slice A' (l ++ Z).length c') w' ∧
      Own w' base A' c' (l ++ Z) ∧ w.grownBy w' (Value.slice A l.length c).ownBlock := by
  have hw : IntKind.i64.wrap (k : Int) = (k : Int) := by rw [hk]; decide
  have hzk : z = (k : Int) := by omega
  rw [hzk, hZ, List.length_append, List.length_replicate]
  exact run_app0 w ty k (by omega) hw hown (by omega) hbase
theorem mk60 : ∃ (k : Nat) (Z : List Int), k = 60 ∧ Z = List.replicate k 0 ∧ Z.length = 60 ∧ Bytes Z := by
  refine ⟨60, _, rfl, rfl, by rw [List.length_replicate], ?_⟩
  intro x hx
  rw [List.eq_of_mem_replicate hx]
  decide
theorem wpList_app60 {ops : Array Oper} {rest : List Oper} {o : Oper} {a : Act} {w : World} {Q : Exit → Act → World → Prop} (hgd : o.guard = none) (s x : Operand)
    (ho : o.op = .call { callee := .builtin .append, args := #[s, x], argTypes := #[22, 3] })
    (base : Nat) {c : Nat} {A : Option Addr} {l : List Int} (k : Nat) (Z : List Int) (hk : k = 60) (hZ : Z = List.replicate k 0) (hs : a.eval s = .slice A l.length c) (hx : a.eval x = .int .i64 60) (hown : Own w base A c l)
    (hlen : l.length = 13) (hbase : base ≤ w.heap.size)
    (h : ∀ A' c' w', Own w' base A' c' (l ++ Z) → Below base w w' → wpList Tryd.prog ops Q rest (a.put o.dst (.slice A' (l ++ Z).length c')) w') : wpList Tryd.prog ops Q (o :: rest) a w :=
  wpList_plain hgd fun K hK => by
    obtain ⟨A', c', w', hrun, h2, h3⟩ := run_app60 w o.type k Z hk hZ 60 rfl hown hlen hbase
    unfold Oper.wp execOp
    simp only [ho, resolve, invoke, builtin, Sem.run_bind, Sem.run_pure, Result.andThen_ok, List.map_toArray, List.map_cons, List.map_nil, hs, hx, hrun]
    exact hK _ _ (h A' c' w' h2 ((Below.refl _ _).grown h3 hbase hown.row_ge))

end Go.Proofs.YtomapklkbfjafaaDoor
