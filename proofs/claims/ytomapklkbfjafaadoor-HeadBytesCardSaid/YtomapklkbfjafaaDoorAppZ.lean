/-
  append(p, make([]byte, n)...): one operation with an int operand.
-/
import Derived.Test.YtomapklkbfjafaaDoorVintD
namespace Go.Proofs.YtomapklkbfjafaaDoor
open Go.RowKit
set_option linter.unusedVariables false
set_option linter.unusedSimpArgs false

theorem zeroCells_u8 (n : Nat) : Builtin.zeroCells (Value.int .u8 0).cells n = (U8 (List.replicate n 0)).toArray := by
  have h : Builtin.zeroCells (Value.int .u8 0).cells n = (Array.range n).map fun _ => Value.int .u8 0 := by
    unfold Builtin.zeroCells
    have e : (Value.int .u8 0).cells.size = 1 := rfl
    rw [e, Nat.mul_one]
    refine Array.map_congr_left fun i _ => ?_
    simp [Value.cells, Nat.mod_one]
  rw [h]
  apply Array.ext'
  simp [U8, List.map_const']

theorem run_app0 (w : World) (ty : TypeId) {base c : Nat} {A : Option Addr} {l : List Int} (k : Nat) (hk : 0 < k) (hw : IntKind.i64.wrap (k : Int) = (k : Int)) (hown : Own w base A c l)
    (hlen : l.length + k ≤ 70368744177664) (hbase : base ≤ w.heap.size) :
    ∃ A' c' w', (Builtin.append_ #[22, 3] ty #[.slice A l.length c, .int .i64 (k : Int)]).run Tryd.prog w = .ok (.slice A' (l.length + k) c') w' ∧
      Own w' base A' c' (l ++ List.replicate k 0) ∧ w.grownBy w' (Value.slice A l.length c).ownBlock := by
  obtain ⟨i0, hi0, hz0, hz1, hz2⟩ := info_parts info_u8
  have ht := Tryd.underlying22
  have hu := Tryd.underlying3
  have hk0 : ¬ (k : Int) < 0 := by omega
  have hk48 : ¬ (281474976710656 < (k : Int)) := by omega
  have hkz : k ≠ 0 := by omega
  have hmx : max (k : Int) 0 = (k : Int) := by omega
  have hmx2 : max 0 (k : Int) = (k : Int) := by omega
  have hkle : ¬ (k : Int) ≤ 0 := by omega
  obtain ⟨news, hN⟩ : ∃ news, news = U8 (List.replicate k 0) := ⟨_, rfl⟩
  have hzc : (Builtin.zeroCells #[Value.int IntKind.u8 0] k) = news.toArray := by rw [hN]; exact zeroCells_u8 k
  have hnl : news.length = k := by rw [hN]; simp [U8]
  have hn1 : ∀ u ∈ news, u.oneCell' = true := by rw [hN]; exact U8_oneCell _
  have hU : U8 (l ++ List.replicate k 0) = U8 l ++ news := by rw [U8_append, hN]
  have hLL : (l ++ List.replicate k (0 : Int)).length = l.length + k := by simp
  have hul : (U8 l).length = l.length := by simp [U8]
  clear hN
  have grown : ∀ (old : Nat), old < l.length + k → ∀ (row : Option Nat),
      Own (w.drew.alloc (.cells ((U8 l).toArray ++ news.toArray ++ Builtin.zeroCells (Value.int IntKind.u8 0).cells (grownCap w (l.length + k) old 5 - (l.length + k))) 5)) base
        (some ⟨w.heap.size, 0, none⟩) (grownCap w (l.length + k) old 5) (l ++ List.replicate k 0) ∧
      w.grownBy (w.drew.alloc (.cells ((U8 l).toArray ++ news.toArray ++ Builtin.zeroCells (Value.int IntKind.u8 0).cells (grownCap w (l.length + k) old 5 - (l.length + k))) 5)) row := by
    intro old ho row
    have hge := grownCap_ge w (l.length + k) old 5
    have hcm : grownCap w (l.length + k) old 5 ≤ maxLen := grownCap_le_maxLen w (l.length + k) old 5 (by unfold maxLen; omega)
    refine ⟨?_, ⟨rfl, rfl, rfl, by simp, fun j hj _ => heap_alloc_old w.drew _ hj⟩⟩
    unfold Own
    rw [hLL, hU]
    refine ⟨by simp [hul, hnl], .inr ⟨w.heap.size, _, _, rfl, hbase, heap_alloc_new w.drew _, hge, hcm, ?_, ?_⟩⟩
    · have hzs : (Value.int IntKind.u8 0).cells.size = 1 := rfl
      simp only [Array.size_append, List.size_toArray, size_zeroCells, hzs, hul, hnl]
      omega
    · simp only [Array.toList_append, List.append_assoc]
      rw [← List.append_assoc, show (l.length + k) * 1 = (U8 l ++ news).length by simp [hul, hnl]]
      exact List.take_left
  rcases hown.2 with ⟨h2, h0⟩ | ⟨g, cap, cur, h2, hbg, hg, hnc, hcm, hcs, htake⟩
  · injection h2 with hA hl hc
    subst hA; subst hc
    have hl0 : l = [] := List.eq_nil_of_length_eq_zero hl
    subst hl0
    have hgr := grown 0 (by simp; omega) (Value.ownBlock (.slice none 0 0))
    refine ⟨_, _, _, ?_, hgr.1, hgr.2⟩
    have h63' : ¬ (9223372036854775807 < (k : Int)) := by omega
    have h48' : ¬ (281474976710656 < Builtin.nextslicecap k 0) := by rw [nextslicecap_zero hk]; omega
    simp [Builtin.append_, run_underlying ht, run_underlying hu, sizeOf, typeInfo, zeroValue, hi0, hz0, hz1, hz2, asInt, asIntOf, hmx, hmx2, hkle, hw, hk0, hk48, hkz, h63', h48', Question.forced, newRow, grownCap, Builtin.firstCells, Value.cells, hzc, U8]
  · injection h2 with hA hl hc
    subst hA; subst hc
    by_cases hroom : l.length + k ≤ c
    · have hfit : l.length * 1 + 0 + news.length ≤ cur.size := by rw [hnl, hcs]; omega
      have hst := run_storeCells_at Tryd.prog g (l.length * 1) 5 news 0 cur w hg hfit hn1
      simp only [Nat.add_zero, Nat.mul_one] at hst
      refine ⟨some ⟨g, 0, none⟩, c, w.setRow g (cur.toList.take l.length ++ news ++ cur.toList.drop (l.length + news.length)).toArray, ?_, ?_, ⟨rfl, rfl, rfl, by simp, fun k _ hk => setRow_other w g k _ (fun e => hk (by simp [Value.ownBlock, e]))⟩⟩
      · simp [Builtin.append_, run_underlying ht, run_underlying hu, sizeOf, typeInfo, zeroValue, hi0, hz0, hz1, hz2, asInt, asIntOf, hmx, hmx2, hkle, hw, hk0, hk48, hkz, hroom, Value.cells, hzc, Addr.add_lit, hst]
      · unfold Own
        rw [hLL, hU]
        refine ⟨by simp [hul, hnl], .inr ⟨g, c, _, rfl, hbg, setRow_heap w g cur _ 5 _ hg, hroom, hcm, ?_, ?_⟩⟩
        · simp only [List.size_toArray, List.length_append, List.length_take, List.length_drop, Array.length_toList]
          omega
        · rw [Nat.mul_one] at htake
          rw [htake, show (l.length + k) * 1 = (U8 l ++ news).length by simp [hul, hnl]]
          exact List.take_left
    · have hgr := grown c (by omega) (Value.ownBlock (.slice (some ⟨g, 0, none⟩) l.length c))
      refine ⟨_, _, _, ?_, hgr.1, hgr.2⟩
      have holds : ∀ j u, (U8 l)[j]? = some u → w.drew.cell? ((⟨g, 0, none⟩ : Addr).add j) = some u := by
        have := World.ownsRow.cells hown (g := g) rfl
        simpa using this
      have hfo := run_firstCells_some (P := Tryd.prog) w.drew 1 l.length ⟨g, 0, none⟩ l.length c (U8 l) (by simp [hul]) holds
      have h63' : ¬ (9223372036854775807 < ((l.length : Int) + (k : Int))) := by omega
      have h48' : ¬ (281474976710656 < Builtin.nextslicecap (l.length + k) c) := by
        have := growslice_fits (need := l.length + k) (old := c) (bytes := 1) (by omega) (by omega)
        omega
      simp [Builtin.append_, run_underlying ht, run_underlying hu, sizeOf, typeInfo, zeroValue, hi0, hz0, hz1, hz2, asInt, asIntOf, hmx, hmx2, hkle, hw, hk0, hk48, hkz, hroom, h63', h48', Question.forced, newRow, grownCap, Value.cells, hzc, hfo]
      congr 2
      apply Array.ext'
      simp [List.append_assoc]

theorem wpList_app0 {ops : Array Oper} {rest : List Oper} {o : Oper} {a : Act} {w : World} {Q : Exit → Act → World → Prop} (hgd : o.guard = none) (s x : Operand)
    (ho : o.op = .call { callee := .builtin .append, args := #[s, x], argTypes := #[22, 3] })
    (base : Nat) {c : Nat} {A : Option Addr} {l : List Int} (k : Nat) (hs : a.eval s = .slice A l.length c) (hx : a.eval x = .int .i64 (k : Int)) (hk : 0 < k) (hw : IntKind.i64.wrap (k : Int) = (k : Int)) (hown : Own w base A c l)
    (hlen : l.length + k ≤ 70368744177664) (hbase : base ≤ w.heap.size)
    (h : ∀ A' c' w', Own w' base A' c' (l ++ List.replicate k 0) → w.grownBy w' (Value.slice A l.length c).ownBlock → Below base w w' →
      wpList Tryd.prog ops Q rest (a.put o.dst (.slice A' (l.length + k) c')) w') : wpList Tryd.prog ops Q (o :: rest) a w :=
  wpList_plain hgd fun K hK => by
    obtain ⟨A', c', w', hrun, h2, h3⟩ := run_app0 w o.type k hk hw hown hlen hbase
    unfold Oper.wp execOp
    simp only [ho, resolve, invoke, builtin, Sem.run_bind, Sem.run_pure, Result.andThen_ok, List.map_toArray, List.map_cons, List.map_nil, hs, hx, hrun]
    exact hK _ _ (h A' c' w' h2 h3 ((Below.refl _ _).grown h3 hbase hown.row_ge))
end Go.Proofs.YtomapklkbfjafaaDoor
