/-
  HeadTwo: plain lists of packets; appends in the walk's form.
-/
import Derived.Test.YtomapklkbfjafaaDoorHeadN
import Derived.Test.YtomapklkbfjafaaDoorOpenHeads
namespace Go.Proofs.YtomapklkbfjafaaDoor
open Go.RowKit
set_option linter.unusedVariables false
set_option linter.unusedSimpArgs false

/-- A packet that Read takes, whatever stands behind it. -/
structure Pk (Q : List Int) : Prop where
  read : ∀ R, rdErr (Q ++ R) = 0 ∧ rdAt (Q ++ R) + hdV (Q ++ R) 0 = (Q.length : Int)
  bytes : Bytes Q
  pos : 0 < Q.length
  le : Q.length ≤ 400
def endsOf (ps : List (List Int)) : List Int := (List.range ps.length).map fun k => ((ps.take (k + 1)).flatten.length : Int)
theorem endsOf_length (ps : List (List Int)) : (endsOf ps).length = ps.length := by simp [endsOf]
theorem endsOf_snoc (ps : List (List Int)) (q : List Int) : endsOf (ps ++ [q]) = endsOf ps ++ [((ps ++ [q]).flatten.length : Int)] := by
  unfold endsOf
  rw [List.length_append, List.length_singleton, List.range_succ, List.map_append]
  congr 1
  · apply List.map_congr_left
    intro k hk
    rw [List.take_append_of_le_length (by have := List.mem_range.1 hk; omega)]
  · rw [List.map_singleton, List.take_of_length_le (by simp)]
theorem endsOf_at {ps : List (List Int)} {k : Nat} (h : k < ps.length) : (endsOf ps)[k]? = some ((ps.take (k + 1)).flatten.length : Int) := by
  simp [endsOf, h]
theorem flat_le : ∀ {ps : List (List Int)}, (∀ q ∈ ps, Pk q) → ps.flatten.length ≤ 400 * ps.length ∧ Bytes ps.flatten
  | [], _ => ⟨by simp, Bytes.nil⟩
  | q :: r, h => by
    obtain ⟨h1, h2⟩ := flat_le (ps := r) fun x hx => h x (by simp [hx])
    have hq := h q (by simp)
    refine ⟨?_, by rw [List.flatten_cons]; exact hq.bytes.append h2⟩
    have := hq.le
    rw [List.flatten_cons, List.length_append, List.length_cons]
    omega
theorem flat_drop {ps : List (List Int)} {k : Nat} (h : k < ps.length) : ps.flatten.drop ((ps.take k).flatten.length) = ps[k] ++ (ps.drop (k + 1)).flatten := by
  have e : ps.flatten = (ps.take k).flatten ++ (ps.drop k).flatten := by rw [← List.flatten_append, List.take_append_drop]
  rw [e, List.drop_left, List.drop_eq_getElem_cons h, List.flatten_cons]
theorem flat_take {ps : List (List Int)} {k : Nat} (h : k < ps.length) : (ps.take (k + 1)).flatten.length = (ps.take k).flatten.length + ps[k].length := by
  rw [List.take_succ_eq_append_getElem h, List.flatten_append, List.length_append]
  simp
theorem flat_lt {ps : List (List Int)} {k : Nat} (h : k < ps.length) (hp : 0 < ps[k].length) : (ps.take k).flatten.length < ps.flatten.length := by
  have h1 := congrArg List.length (flat_drop h)
  rw [List.length_drop, List.length_append] at h1
  omega

theorem longB_bytesL (lv : Int) (a b : List Int) (pn L : Int) (hL : 0 ≤ L ∧ L ≤ 16379) (hlv : lv = 0 ∨ lv = 1) (hal : a.length ≤ 20) (hbl : b.length ≤ 20) (ha : Bytes a) (hb : Bytes b) : Bytes (longB lv a b pn L) := by
  unfold longB
  refine Bytes.append (Bytes.append (Bytes.append (Bytes.append (Bytes.append (Bytes.append ?_ ha) ?_) hb) ?_) ?_) (be_bytes _ _)
  · intro x hx
    simp at hx
    rcases hx with rfl | rfl | rfl | rfl <;> omega
  · intro x hx
    simp at hx
    omega
  · split
    · intro x hx; simp at hx; omega
    · exact Bytes.nil
  · exact wenc_bytes (n := 4 + L) (b := 16384) (t := 1) (k := 2) (by unfold IsSize; omega) (by omega) (by omega)
theorem longB_length (lv : Int) (a b : List Int) (pn L : Int) : (longB lv a b pn L).length ≤ a.length + b.length + 15 ∧ 0 < (longB lv a b pn L).length := by
  refine ⟨?_, by simp [longB]⟩
  simp only [longB, List.length_append, be_length, wenc_length _ _ (show 1 ≤ 2 by omega)]
  have : ((if lv = 0 then [0] else []) : List Int).length ≤ 1 := by split <;> simp
  simp
  omega
theorem Pk.of_long (lv : Int) (a b : List Int) (nn : Nat) (hlv : lv = 0 ∨ lv = 1) (hal : a.length ≤ 20) (hbl : b.length ≤ 20) (ha : Bytes a) (hb : Bytes b) (hn : 16 ≤ nn ∧ nn ≤ 300) : Pk (longB lv a b 7 nn ++ List.replicate nn 0) := by
  obtain ⟨h1, h2⟩ := longB_length lv a b 7 nn
  refine ⟨fun R => longB_all lv a b 7 nn (List.replicate nn 0) R hlv hal hbl (by omega) (by simp), ?_, ?_, ?_⟩
  · refine (longB_bytesL lv a b 7 nn (by omega) hlv hal hbl ha hb).append fun x hx => ?_
    rw [List.eq_of_mem_replicate hx]
    decide
  · rw [List.length_append]; omega
  · rw [List.length_append, List.length_replicate]; omega

theorem wpList_appX {ops : Array Oper} {rest : List Oper} {o : Oper} {a : Act} {w : World} {Q : Exit → Act → World → Prop} (hgd : o.guard = none) (s x : Operand)
    (ho : o.op = .call { callee := .builtin .append, args := #[s, x], argTypes := #[22, 22] })
    (base : Nat) {c d : Nat} {A B : Option Addr} {l news : List Int} (X : List Int) (hX : X = l ++ news) (hs : a.eval s = .slice A l.length c) (hx : a.eval x = .slice B news.length d) (hown : Own w base A c l) (hr : Rd w B news)
    (hlen : l.length + news.length ≤ 70368744177664) (hbase : base ≤ w.heap.size)
    (h : ∀ A' c' w', Own w' base A' c' X → w.grownBy w' (Value.slice A l.length c).ownBlock → Below base w w' → wpList Tryd.prog ops Q rest (a.put o.dst (.slice A' X.length c')) w') : wpList Tryd.prog ops Q (o :: rest) a w := by
  subst hX
  refine wpList_app hgd s x ho base hs hx hown hr hlen hbase ?_
  intro A' c' w' h1 h2 h3
  have := h A' c' w' h1 h2 h3
  rwa [List.length_append] at this
theorem wpList_appN {ops : Array Oper} {rest : List Oper} {o : Oper} {a : Act} {w : World} {Q : Exit → Act → World → Prop} (hgd : o.guard = none) (s x : Operand)
    (ho : o.op = .call { callee := .builtin .append, args := #[s, x], argTypes := #[22, 3] })
    (base : Nat) {c : Nat} {A : Option Addr} {l : List Int} (k : Nat) (X : List Int) (hX : X = l ++ List.replicate k 0) (hk : 0 < k ∧ k ≤ 20000) (z : Int) (hz : z = (k : Int)) (hs : a.eval s = .slice A l.length c) (hx : a.eval x = .int .i64 z) (hown : Own w base A c l)
    (hlen : l.length ≤ 70368744000000) (hbase : base ≤ w.heap.size)
    (h : ∀ A' c' w', Own w' base A' c' X → w.grownBy w' (Value.slice A l.length c).ownBlock → Below base w w' → wpList Tryd.prog ops Q rest (a.put o.dst (.slice A' X.length c')) w') : wpList Tryd.prog ops Q (o :: rest) a w :=
  wpList_plain hgd fun K hK => by
    have hw : IntKind.i64.wrap (k : Int) = (k : Int) := by rw [IntKind.wrap_i64]; omega
    obtain ⟨A', c', w', hrun, h2, h3⟩ := run_app0 w o.type k hk.1 hw hown (by omega) hbase
    rw [← hX] at h2
    have hXl : X.length = l.length + k := by rw [hX, List.length_append, List.length_replicate]
    rw [← hXl] at hrun
    rw [hz] at hx
    unfold Oper.wp execOp
    simp only [ho, resolve, invoke, builtin, Sem.run_bind, Sem.run_pure, Result.andThen_ok, List.map_toArray, List.map_cons, List.map_nil, hs, hx, hrun]
    exact hK _ _ (h A' c' w' h2 h3 ((Below.refl _ _).grown h3 hbase hown.row_ge))
theorem info_int : (Tryd.prog.info? 3).map (fun i => (i.zero, i.size, i.bytes)) = some (some (.int .i64 0), 1, 8) := by kernel_rfl
theorem reads_one {w : World} {g : Nat} {T : TypeId} {v : Value} (h : Blk w g T #[v]) : Reads w w.heap.size 1 (some ⟨g, 0, none⟩) 1 [v] :=
  Reads.of_own (base := 0) (e := T) (c := 1) (Blk.own (xs := [v]) h (Nat.zero_le _) (by simp [maxLen]) rfl)
end Go.Proofs.YtomapklkbfjafaaDoor
