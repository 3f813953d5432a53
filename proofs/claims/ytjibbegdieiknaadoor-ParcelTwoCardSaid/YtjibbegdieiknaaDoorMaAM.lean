/-
  A head (a struct of five cells) by value, opened.
-/
import Derived.Test.YtjibbegdieiknaaDoorMaAA
import Derived.Deep.Slices
import Derived.Test.YtjibbegdieiknaaDoorMaAL
namespace Go.Proofs.YtjibbegdieiknaaDoor
set_option maxRecDepth 100000
open Go.ChangeShapes Go.WideShapes Go.ChangeAt Go.RowKit
set_option linter.unusedVariables false

theorem list5 {α : Type} : ∀ (l : List α), l.length = 5 → ∃ a b c d e, l = [a, b, c, d, e]
  | [a, b, c, d, e], _ => ⟨a, b, c, d, e, rfl⟩
theorem open_head {H : Type} {enc : TypeId × Value → H} {w : World} {base b0 : Nat} {r : Reach} {sp : Nat → Bool} {held : Bool} {v : Value} {d : DataW H} {p : List MemPlace}
    (hv : Value.okWide Tryd.prog w r b0 25 v) (h : DataW.Trod enc Tryd.prog w base sp held 25 v d p) :
    ∃ (lg : Bool) (lv : Int) (ph : Bool) (A : Option Addr) (c : Nat) (a : List Int) (B : Option Addr) (c' : Nat) (b : List Int),
      v = .agg #[.bool lg, .int .i64 lv, .bool ph, .slice A a.length c, .slice B b.length c'] ∧ Sl w A c a ∧ Bytes a ∧ Sl w B c' b ∧ Bytes b := by
  obtain ⟨cs, rfl, hsz⟩ := okWide_struct Tryd.underlying25 hv
  obtain ⟨fuel, hf⟩ := h
  obtain ⟨xs, m, _, _, hl, hn, hel⟩ := DataW.trod_struct Tryd.underlying25 hf
  have hc5 : Tryd.prog.cellsOf 25 = 5 := by kernel_rfl
  have hl5 : cs.toList.length = 5 := by rw [← hc5, ← hsz]; rfl
  obtain ⟨u0, u1, u2, u3, u4, hcs⟩ := list5 cs.toList hl5
  obtain ⟨y0, y1, y2, y3, y4, rfl⟩ := list5 xs hn
  have e : cs = #[u0, u1, u2, u3, u4] := by rw [← Array.toArray_toList (xs := cs), hcs]
  subst e
  have kb : Tryd.prog.cellsOf 4 = 1 := by kernel_rfl
  have ki : Tryd.prog.cellsOf 3 = 1 := by kernel_rfl
  have ks : Tryd.prog.cellsOf 23 = 1 := by kernel_rfl
  have g0 : DataW.trod enc Tryd.prog w base sp held m 4 [u0] = some y0 := by
    have h : DataW.trod enc Tryd.prog w base sp held m 4 ((([u0, u1, u2, u3, u4] : List Value).drop 0).take (Tryd.prog.cellsOf 4)) = some y0 := hel 0 _ rfl
    rw [kb] at h
    exact h
  have g1 : DataW.trod enc Tryd.prog w base sp held m 3 [u1] = some y1 := by
    have h : DataW.trod enc Tryd.prog w base sp held m 3 ((([u0, u1, u2, u3, u4] : List Value).drop 1).take (Tryd.prog.cellsOf 3)) = some y1 := hel 1 _ rfl
    rw [ki] at h
    exact h
  have g2 : DataW.trod enc Tryd.prog w base sp held m 4 [u2] = some y2 := by
    have h : DataW.trod enc Tryd.prog w base sp held m 4 ((([u0, u1, u2, u3, u4] : List Value).drop 2).take (Tryd.prog.cellsOf 4)) = some y2 := hel 2 _ rfl
    rw [kb] at h
    exact h
  have g3 : DataW.trod enc Tryd.prog w base sp held m 23 [u3] = some y3 := by
    have h : DataW.trod enc Tryd.prog w base sp held m 23 ((([u0, u1, u2, u3, u4] : List Value).drop 3).take (Tryd.prog.cellsOf 23)) = some y3 := hel 3 _ rfl
    rw [ks] at h
    exact h
  have g4 : DataW.trod enc Tryd.prog w base sp held m 23 [u4] = some y4 := by
    have h : DataW.trod enc Tryd.prog w base sp held m 23 ((([u0, u1, u2, u3, u4] : List Value).drop 4).take (Tryd.prog.cellsOf 23)) = some y4 := hel 4 _ rfl
    rw [ks] at h
    exact h
  clear hel
  obtain ⟨b0, e0, _⟩ := DataW.trod_bool Tryd.underlying4 g0
  obtain ⟨i1, e1, _, _⟩ := DataW.trod_int Tryd.underlying3 g1
  obtain ⟨b2, e2, _⟩ := DataW.trod_bool Tryd.underlying4 g2
  obtain ⟨t3, e3, s3, q3⟩ := open_u8v g3
  obtain ⟨t4, e4, s4, q4⟩ := open_u8v g4
  injection e0 with e0
  injection e1 with e1
  injection e2 with e2
  subst e0 e1 e2 e3 e4
  exact ⟨b0, i1, b2, t3.1, t3.2.1, t3.2.2, t4.1, t4.2.1, t4.2.2, rfl, s3, q3, s4, q4⟩
end Go.Proofs.YtjibbegdieiknaaDoor

/-
  A slice of heads (five cells each) as an argument, opened.
-/
namespace Go.Proofs.YtjibbegdieiknaaDoor
set_option maxRecDepth 100000
open Go.ChangeShapes Go.WideShapes Go.ChangeAt Go.RowKit
set_option linter.unusedVariables false

structure HT where
  lg : Bool
  lv : Int
  ph : Bool
  A : Option Addr
  c : Nat
  a : List Int
  B : Option Addr
  d : Nat
  b : List Int
instance : Inhabited HT := ⟨⟨false, 0, false, none, 0, [], none, 0, []⟩⟩
def HC (x : HT) : List Value := [.bool x.lg, .int .i64 x.lv, .bool x.ph, .slice x.A x.a.length x.c, .slice x.B x.b.length x.d]
def HOk (w : World) (x : HT) : Prop := Sl w x.A x.c x.a ∧ Bytes x.a ∧ Sl w x.B x.d x.b ∧ Bytes x.b
theorem HOk.below {w w' : World} {x : HT} (h : HOk w x) (hb : Below w.heap.size w w') : HOk w' x := ⟨h.1.below hb, h.2.1, h.2.2.1.below hb, h.2.2.2⟩
/-- The slice at A reads as these heads. -/
structure RdHs (w : World) (A : Option Addr) (xs : List HT) : Prop where
  row : xs.length = 0 ∨ ∃ b off, A = some ⟨b, off, none⟩ ∧ b < w.heap.size ∧ ∀ i j, i < xs.length → j < 5 → w.cell? ⟨b, off + (i * 5 + j), none⟩ = (xs[i]?.bind fun x => (HC x)[j]?)
  each : ∀ x ∈ xs, HOk w x
theorem RdHs.below {w w' : World} {A : Option Addr} {xs : List HT} (h : RdHs w A xs) (hb : Below w.heap.size w w') : RdHs w' A xs := by
  refine ⟨?_, fun x hx => (h.each x hx).below hb⟩
  rcases h.row with h0 | ⟨b, off, e, hlt, hc⟩
  · exact .inl h0
  · refine .inr ⟨b, off, e, Nat.lt_of_lt_of_le hlt hb.size, fun i j hi hj => ?_⟩
    rw [← hc i j hi hj]
    exact hb.cell (p := ⟨b, off + (i * 5 + j), none⟩) hlt
theorem RdHs.at_ {w : World} {A : Option Addr} {xs : List HT} (h : RdHs w A xs) {i : Nat} (hi : i < xs.length) :
    ∃ b off x, A = some ⟨b, off, none⟩ ∧ b < w.heap.size ∧ xs[i]? = some x ∧ HOk w x ∧ w.cell? ⟨b, off + i * 5, none⟩ = some (.bool x.lg) ∧ w.cell? ⟨b, off + i * 5 + 1, none⟩ = some (.int .i64 x.lv) ∧
      w.cell? ⟨b, off + i * 5 + 2, none⟩ = some (.bool x.ph) ∧ w.cell? ⟨b, off + i * 5 + 3, none⟩ = some (.slice x.A x.a.length x.c) ∧ w.cell? ⟨b, off + i * 5 + 4, none⟩ = some (.slice x.B x.b.length x.d) := by
  rcases h.row with h0 | ⟨b, off, e, hlt, hc⟩
  · omega
  · have hx : xs[i]? = some xs[i] := List.getElem?_eq_getElem hi
    have h5 : ∀ j, j < 5 → w.cell? ⟨b, off + i * 5 + j, none⟩ = (HC xs[i])[j]? := fun j hj => by
      have := hc i j hi hj
      rw [hx] at this
      rw [Nat.add_assoc]
      exact this
    exact ⟨b, off, xs[i], e, hlt, hx, h.each _ (List.getElem_mem hi), h5 0 (by omega), h5 1 (by omega), h5 2 (by omega), h5 3 (by omega), h5 4 (by omega)⟩
theorem head_cells {H : Type} {enc : TypeId × Value → H} {w : World} {base : Nat} {sp : Nat → Bool} {held : Bool} {cs : List Value} {fuel : Nat} {x : DataW H × List MemPlace}
    (hf : DataW.trod enc Tryd.prog w base sp held fuel 25 cs = some x) : ∃ x : HT, cs = HC x ∧ HOk w x := by
  obtain ⟨xs, m, _, _, hl, hn, hel⟩ := DataW.trod_struct Tryd.underlying25 hf
  have hc5 : Tryd.prog.cellsOf 25 = 5 := by kernel_rfl
  have hl5 : cs.length = 5 := by rw [← hc5, ← hl]
  obtain ⟨u0, u1, u2, u3, u4, rfl⟩ := list5 cs hl5
  obtain ⟨y0, y1, y2, y3, y4, rfl⟩ := list5 xs hn
  have kb : Tryd.prog.cellsOf 4 = 1 := by kernel_rfl
  have ki : Tryd.prog.cellsOf 3 = 1 := by kernel_rfl
  have ks : Tryd.prog.cellsOf 23 = 1 := by kernel_rfl
  have g0 : DataW.trod enc Tryd.prog w base sp held m 4 [u0] = some y0 := by
    have h : DataW.trod enc Tryd.prog w base sp held m 4 ((([u0, u1, u2, u3, u4] : List Value).drop 0).take (Tryd.prog.cellsOf 4)) = some y0 := hel 0 _ rfl
    rw [kb] at h
    exact h
  have g1 : DataW.trod enc Tryd.prog w base sp held m 3 [u1] = some y1 := by
    have h : DataW.trod enc Tryd.prog w base sp held m 3 ((([u0, u1, u2, u3, u4] : List Value).drop 1).take (Tryd.prog.cellsOf 3)) = some y1 := hel 1 _ rfl
    rw [ki] at h
    exact h
  have g2 : DataW.trod enc Tryd.prog w base sp held m 4 [u2] = some y2 := by
    have h : DataW.trod enc Tryd.prog w base sp held m 4 ((([u0, u1, u2, u3, u4] : List Value).drop 2).take (Tryd.prog.cellsOf 4)) = some y2 := hel 2 _ rfl
    rw [kb] at h
    exact h
  have g3 : DataW.trod enc Tryd.prog w base sp held m 23 [u3] = some y3 := by
    have h : DataW.trod enc Tryd.prog w base sp held m 23 ((([u0, u1, u2, u3, u4] : List Value).drop 3).take (Tryd.prog.cellsOf 23)) = some y3 := hel 3 _ rfl
    rw [ks] at h
    exact h
  have g4 : DataW.trod enc Tryd.prog w base sp held m 23 [u4] = some y4 := by
    have h : DataW.trod enc Tryd.prog w base sp held m 23 ((([u0, u1, u2, u3, u4] : List Value).drop 4).take (Tryd.prog.cellsOf 23)) = some y4 := hel 4 _ rfl
    rw [ks] at h
    exact h
  clear hel
  obtain ⟨b0, e0, _⟩ := DataW.trod_bool Tryd.underlying4 g0
  obtain ⟨i1, e1, _, _⟩ := DataW.trod_int Tryd.underlying3 g1
  obtain ⟨b2, e2, _⟩ := DataW.trod_bool Tryd.underlying4 g2
  obtain ⟨t3, e3, s3, q3⟩ := open_u8v g3
  obtain ⟨t4, e4, s4, q4⟩ := open_u8v g4
  injection e0 with e0
  injection e1 with e1
  injection e2 with e2
  subst e0 e1 e2 e3 e4
  exact ⟨⟨b0, i1, b2, t3.1, t3.2.1, t3.2.2, t4.1, t4.2.1, t4.2.2⟩, rfl, s3, q3, s4, q4⟩
end Go.Proofs.YtjibbegdieiknaaDoor

/-
  HeadTwo: plain lists of packets; appends in the walk's form.
-/
namespace Go.Proofs.YtjibbegdieiknaaDoor
open Go.RowKit
set_option linter.unusedVariables false
set_option linter.unusedSimpArgs false

/-- A packet that Read takes, whatever stands behind it. -/
structure Pk (Q : List Int) : Prop where
  read : ∀ R, rdErr (Q ++ R) = 0 ∧ rdAt (Q ++ R) + hdV (Q ++ R) 0 = (Q.length : Int)
  bytes : Bytes Q
  pos : 0 < Q.length
  le : Q.length ≤ 400
def endsOf (ps : List (List Int)) : List Int := (List.range ps.length).map fun k => ((ps.take (k + 1)).flatten.length : Int)
theorem endsOf_length (ps : List (List Int)) : (endsOf ps).length = ps.length := by simp [endsOf]
theorem endsOf_snoc (ps : List (List Int)) (q : List Int) : endsOf (ps ++ [q]) = endsOf ps ++ [((ps ++ [q]).flatten.length : Int)] := by
  unfold endsOf
  rw [List.length_append, List.length_singleton, List.range_succ, List.map_append]
  congr 1
  · apply List.map_congr_left
    intro k hk
    rw [List.take_append_of_le_length (by have := List.mem_range.1 hk; omega)]
  · rw [List.map_singleton, List.take_of_length_le (by simp)]
theorem endsOf_at {ps : List (List Int)} {k : Nat} (h : k < ps.length) : (endsOf ps)[k]? = some ((ps.take (k + 1)).flatten.length : Int) := by
  simp [endsOf, h]
theorem flat_le : ∀ {ps : List (List Int)}, (∀ q ∈ ps, Pk q) → ps.flatten.length ≤ 400 * ps.length ∧ Bytes ps.flatten
  | [], _ => ⟨by simp, Bytes.nil⟩
  | q :: r, h => by
    obtain ⟨h1, h2⟩ := flat_le (ps := r) fun x hx => h x (by simp [hx])
    have hq := h q (by simp)
    refine ⟨?_, by rw [List.flatten_cons]; exact hq.bytes.append h2⟩
    have := hq.le
    rw [List.flatten_cons, List.length_append, List.length_cons]
    omega
theorem flat_drop {ps : List (List Int)} {k : Nat} (h : k < ps.length) : ps.flatten.drop ((ps.take k).flatten.length) = ps[k] ++ (ps.drop (k + 1)).flatten := by
  have e : ps.flatten = (ps.take k).flatten ++ (ps.drop k).flatten := by rw [← List.flatten_append, List.take_append_drop]
  rw [e, List.drop_left, List.drop_eq_getElem_cons h, List.flatten_cons]
theorem flat_take {ps : List (List Int)} {k : Nat} (h : k < ps.length) : (ps.take (k + 1)).flatten.length = (ps.take k).flatten.length + ps[k].length := by
  rw [List.take_succ_eq_append_getElem h, List.flatten_append, List.length_append]
  simp
theorem flat_lt {ps : List (List Int)} {k : Nat} (h : k < ps.length) (hp : 0 < ps[k].length) : (ps.take k).flatten.length < ps.flatten.length := by
  have h1 := congrArg List.length (flat_drop h)
  rw [List.length_drop, List.length_append] at h1
  omega

theorem longB_bytesL (lv : Int) (a b : List Int) (pn L : Int) (hL : 0 ≤ L ∧ L ≤ 16379) (hlv : lv = 0 ∨ lv = 1) (hal : a.length ≤ 20) (hbl : b.length ≤ 20) (ha : Bytes a) (hb : Bytes b) : Bytes (longB lv a b pn L) := by
  unfold longB
  refine Bytes.append (Bytes.append (Bytes.append (Bytes.append (Bytes.append (Bytes.append ?_ ha) ?_) hb) ?_) ?_) (be_bytes _ _)
  · intro x hx
    simp at hx
    rcases hx with rfl | rfl | rfl | rfl <;> omega
  · intro x hx
    simp at hx
    omega
  · split
    · intro x hx; simp at hx; omega
    · exact Bytes.nil
  · exact wenc_bytes (n := 4 + L) (b := 16384) (t := 1) (k := 2) (by unfold IsSize; omega) (by omega) (by omega)
theorem longB_length (lv : Int) (a b : List Int) (pn L : Int) : (longB lv a b pn L).length ≤ a.length + b.length + 15 ∧ 0 < (longB lv a b pn L).length := by
  refine ⟨?_, by simp [longB]⟩
  simp only [longB, List.length_append, be_length, wenc_length _ _ (show 1 ≤ 2 by omega)]
  have : ((if lv = 0 then [0] else []) : List Int).length ≤ 1 := by split <;> simp
  simp
  omega
theorem Pk.of_long (lv : Int) (a b : List Int) (nn : Nat) (hlv : lv = 0 ∨ lv = 1) (hal : a.length ≤ 20) (hbl : b.length ≤ 20) (ha : Bytes a) (hb : Bytes b) (hn : 16 ≤ nn ∧ nn ≤ 300) : Pk (longB lv a b 7 nn ++ List.replicate nn 0) := by
  obtain ⟨h1, h2⟩ := longB_length lv a b 7 nn
  refine ⟨fun R => longB_all lv a b 7 nn (List.replicate nn 0) R hlv hal hbl (by omega) (by simp), ?_, ?_, ?_⟩
  · refine (longB_bytesL lv a b 7 nn (by omega) hlv hal hbl ha hb).append fun x hx => ?_
    rw [List.eq_of_mem_replicate hx]
    decide
  · rw [List.length_append]; omega
  · rw [List.length_append, List.length_replicate]; omega

theorem wpList_appX {ops : Array Oper} {rest : List Oper} {o : Oper} {a : Act} {w : World} {Q : Exit → Act → World → Prop} (hgd : o.guard = none) (s x : Operand)
    (ho : o.op = .call { callee := .builtin .append, args := #[s, x], argTypes := #[23, 23] })
    (base : Nat) {c d : Nat} {A B : Option Addr} {l news : List Int} (X : List Int) (hX : X = l ++ news) (hs : a.eval s = .slice A l.length c) (hx : a.eval x = .slice B news.length d) (hown : Own w base A c l) (hr : Rd w B news)
    (hlen : l.length + news.length ≤ 70368744177664) (hbase : base ≤ w.heap.size)
    (h : ∀ A' c' w', Own w' base A' c' X → w.grownBy w' (Value.slice A l.length c).ownBlock → Below base w w' → wpList Tryd.prog ops Q rest (a.put o.dst (.slice A' X.length c')) w') : wpList Tryd.prog ops Q (o :: rest) a w := by
  subst hX
  refine wpList_app hgd s x ho base hs hx hown hr hlen hbase ?_
  intro A' c' w' h1 h2 h3
  have := h A' c' w' h1 h2 h3
  rwa [List.length_append] at this
theorem wpList_appN {ops : Array Oper} {rest : List Oper} {o : Oper} {a : Act} {w : World} {Q : Exit → Act → World → Prop} (hgd : o.guard = none) (s x : Operand)
    (ho : o.op = .call { callee := .builtin .append, args := #[s, x], argTypes := #[23, 3] })
    (base : Nat) {c : Nat} {A : Option Addr} {l : List Int} (k : Nat) (X : List Int) (hX : X = l ++ List.replicate k 0) (hk : 0 < k ∧ k ≤ 20000) (z : Int) (hz : z = (k : Int)) (hs : a.eval s = .slice A l.length c) (hx : a.eval x = .int .i64 z) (hown : Own w base A c l)
    (hlen : l.length ≤ 70368744000000) (hbase : base ≤ w.heap.size)
    (h : ∀ A' c' w', Own w' base A' c' X → w.grownBy w' (Value.slice A l.length c).ownBlock → Below base w w' → wpList Tryd.prog ops Q rest (a.put o.dst (.slice A' X.length c')) w') : wpList Tryd.prog ops Q (o :: rest) a w :=
  wpList_plain hgd fun K hK => by
    have hw : IntKind.i64.wrap (k : Int) = (k : Int) := by rw [IntKind.wrap_i64]; omega
    obtain ⟨A', c', w', hrun, h2, h3⟩ := run_app0 w o.type k hk.1 hw hown (by omega) hbase
    rw [← hX] at h2
    have hXl : X.length = l.length + k := by rw [hX, List.length_append, List.length_replicate]
    rw [← hXl] at hrun
    rw [hz] at hx
    unfold Oper.wp execOp
    simp only [ho, resolve, invoke, builtin, Sem.run_bind, Sem.run_pure, Result.andThen_ok, List.map_toArray, List.map_cons, List.map_nil, hs, hx, hrun]
    exact hK _ _ (h A' c' w' h2 h3 ((Below.refl _ _).grown h3 hbase hown.row_ge))
theorem info_int : (Tryd.prog.info? 3).map (fun i => (i.zero, i.size, i.bytes)) = some (some (.int .i64 0), 1, 8) := by kernel_rfl
theorem reads_oneH {w : World} {g : Nat} {T : TypeId} {v : Value} (h : Blk w g T #[v]) : Reads w w.heap.size 1 (some ⟨g, 0, none⟩) 1 [v] :=
  Reads.of_own (base := 0) (e := T) (c := 1) (Blk.own (xs := [v]) h (Nat.zero_le _) (by simp [maxLen]) rfl)
end Go.Proofs.YtjibbegdieiknaaDoor

/-
  The reference's Bytes of a head, with a number of whatever size: what it refuses; a short head.
-/
namespace Go.Proofs.YtjibbegdieiknaaDoor
open Go.RowKit
set_option linter.unusedVariables false


def shortS (s : Nat) (ph : Bool) (a : List Int) (pn : Int) : List Int := (if ph then 64 + (s : Int) - 1 + 4 else 64 + (s : Int) - 1) :: (a ++ be pn s)
end Go.Proofs.YtjibbegdieiknaaDoor

/-
  The reference's Bytes of a long head, with a number of whatever size.
-/
namespace Go.Proofs.YtjibbegdieiknaaDoor
open Go.RowKit
set_option linter.unusedVariables false

def longS (s : Nat) (lv : Int) (a b : List Int) (pn L : Int) : List Int :=
  [192 + 32 * lv + (s : Int) - 1, 0, 0, 0, 1, (a.length : Int)] ++ a ++ [(b.length : Int)] ++ b ++ (if lv = 0 then [0] else []) ++ wenc ((s : Int) + L) 2 ++ be pn s
end Go.Proofs.YtjibbegdieiknaaDoor

/-
  head.Bytes: its parts (valid, firstByte, appendNumber).
-/
namespace Go.Proofs.YtjibbegdieiknaaDoor
open Go.RowKit
set_option linter.unusedVariables false
set_option linter.unusedSimpArgs false

theorem valid_any (lg : Bool) (lv : Int) (ph : Bool) (A : Option Addr) (a : List Int) (c : Nat) (B : Option Addr) (b : List Int) (d : Nat) (w : World) :
    Calls Tryd.prog 36 #[HV lg lv ph A a c B b d] w fun r w' => r = .returned (.bool (rightB lg lv ph a b)) ∧ Below w.heap.size w w' := by
  unfold HV
  obtain ⟨R, hR⟩ : ∃ R, R = rightB lg lv ph a b := ⟨_, rfl⟩
  rw [← hR]
  have bb : Below w.heap.size w (w.alloc (.cells #[.bool lg, .int .i64 lv, .bool ph, .slice A a.length c, .slice B b.length d] 25)) := (Below.refl _ _).alloc (Nat.le_refl _) _
  have hR' : R = if lg then (decide (lv = 0) || decide (lv = 1)) && decide (a.length ≤ 20) && decide (b.length ≤ 20) && !ph else decide (lv = 2) && decide (a.length = 8) && decide (b.length = 0) := by
    rw [hR]
    unfold rightB
    cases lg
    · rfl
    · have e1 : (decide (0 ≤ lv) && decide (lv ≤ 1)) = (decide (lv = 0) || decide (lv = 1)) := by
        rw [Bool.eq_iff_iff]; simp; omega
      have e2 : ∀ n : Nat, decide (n < 21) = decide (n ≤ 20) := fun n => by rw [Bool.eq_iff_iff]; simp; omega
      simp only [if_true, e1, e2]
  clear hR
  have BB := Lib.hid bb
  clear bb
  cases lg
  · by_cases h2 : lv = 2
    · by_cases h8 : a.length = 8
      · by_cases h0 : b.length = 0
        · have e0 : ((b.length : Int) == 0) = true := by simp [h0]
          have e8 : ((a.length : Int) == 8) = true := by simp; omega
          have e2 : (lv == 2) = true := by simp [h2]
          have HR := Lib.hid (show R = true by rw [hR']; simp [h2, h8, h0])
          clear hR' h2 h8 h0
          go_enter Tryd.func36, Tryd.ntmps36
          go_wp2_with fail
          go_ret
          exact ⟨by rw [HR.out]; rfl, BB.out⟩
        · have e0 : ((b.length : Int) == 0) = false := by rw [beq_eq_false_iff_ne]; omega
          have e8 : ((a.length : Int) == 8) = true := by simp; omega
          have e2 : (lv == 2) = true := by simp [h2]
          have HR := Lib.hid (show R = false by rw [hR']; simp [h0])
          clear hR' h2 h8 h0
          go_enter Tryd.func36, Tryd.ntmps36
          go_wp2_with fail
          go_ret
          exact ⟨by rw [HR.out]; rfl, BB.out⟩
      · have e8 : ((a.length : Int) == 8) = false := by simp; omega
        have e2 : (lv == 2) = true := by simp [h2]
        have HR := Lib.hid (show R = false by rw [hR']; simp [h8])
        clear hR' h2 h8
        go_enter Tryd.func36, Tryd.ntmps36
        go_wp2_with fail
        go_ret
        exact ⟨by rw [HR.out]; rfl, BB.out⟩
    · have e2 : (lv == 2) = false := by simp [h2]
      have HR := Lib.hid (show R = false by rw [hR']; simp [h2])
      clear hR' h2
      go_enter Tryd.func36, Tryd.ntmps36
      go_wp2_with fail
      go_ret
      exact ⟨by rw [HR.out]; rfl, BB.out⟩
  · have hl : (lv = 0 ∧ (lv == 0) = true) ∨ (lv = 1 ∧ (lv == 0) = false ∧ (lv == 1) = true) ∨ (¬ lv = 0 ∧ ¬ lv = 1 ∧ (lv == 0) = false ∧ (lv == 1) = false) := by
      by_cases h0 : lv = 0
      · exact .inl ⟨h0, by simp [h0]⟩
      · by_cases h1 : lv = 1
        · exact .inr (.inl ⟨h1, by simp [h0], by simp [h1]⟩)
        · exact .inr (.inr ⟨h0, h1, by simp [h0], by simp [h1]⟩)
    have ha : (a.length ≤ 20 ∧ decide ((a.length : Int) ≤ 20) = true) ∨ (¬ a.length ≤ 20 ∧ decide ((a.length : Int) ≤ 20) = false) := by
      by_cases h : a.length ≤ 20
      · exact .inl ⟨h, by simp; omega⟩
      · exact .inr ⟨h, by simp; omega⟩
    have hb : (b.length ≤ 20 ∧ decide ((b.length : Int) ≤ 20) = true) ∨ (¬ b.length ≤ 20 ∧ decide ((b.length : Int) ≤ 20) = false) := by
      by_cases h : b.length ≤ 20
      · exact .inl ⟨h, by simp; omega⟩
      · exact .inr ⟨h, by simp; omega⟩
    rcases hl with ⟨l1, l2⟩ | ⟨l1, l2, l3⟩ | ⟨l1, l1', l2, l3⟩
    · rcases ha with ⟨a1, a2⟩ | ⟨a1, a2⟩
      · rcases hb with ⟨b1, b2⟩ | ⟨b1, b2⟩
        · have HR := Lib.hid (show R = !ph by rw [hR']; simp [l1, a1, b1])
          clear hR' l1 a1 b1
          go_enter Tryd.func36, Tryd.ntmps36
          go_wp2_with fail
          go_ret
          exact ⟨by rw [HR.out]; rfl, BB.out⟩
        · have HR := Lib.hid (show R = false by rw [hR']; simp [b1])
          clear hR' l1 a1 b1
          go_enter Tryd.func36, Tryd.ntmps36
          go_wp2_with fail
          go_ret
          exact ⟨by rw [HR.out]; rfl, BB.out⟩
      · have HR := Lib.hid (show R = false by rw [hR']; simp [a1])
        clear hR' l1 a1 hb
        go_enter Tryd.func36, Tryd.ntmps36
        go_wp2_with fail
        go_ret
        exact ⟨by rw [HR.out]; rfl, BB.out⟩
    · rcases ha with ⟨a1, a2⟩ | ⟨a1, a2⟩
      · rcases hb with ⟨b1, b2⟩ | ⟨b1, b2⟩
        · have HR := Lib.hid (show R = !ph by rw [hR']; simp [l1, a1, b1])
          clear hR' l1 a1 b1
          go_enter Tryd.func36, Tryd.ntmps36
          go_wp2_with fail
          go_ret
          exact ⟨by rw [HR.out]; rfl, BB.out⟩
        · have HR := Lib.hid (show R = false by rw [hR']; simp [b1])
          clear hR' l1 a1 b1
          go_enter Tryd.func36, Tryd.ntmps36
          go_wp2_with fail
          go_ret
          exact ⟨by rw [HR.out]; rfl, BB.out⟩
      · have HR := Lib.hid (show R = false by rw [hR']; simp [a1])
        clear hR' l1 a1 hb
        go_enter Tryd.func36, Tryd.ntmps36
        go_wp2_with fail
        go_ret
        exact ⟨by rw [HR.out]; rfl, BB.out⟩
    · have HR := Lib.hid (show R = false by rw [hR']; simp [l1, l1'])
      clear hR' l1 l1' ha hb
      go_enter Tryd.func36, Tryd.ntmps36
      go_wp2_with fail
      go_ret
      exact ⟨by rw [HR.out]; rfl, BB.out⟩

def fB (lg : Bool) (lv : Int) (ph : Bool) (s : Int) : Int := if lg then 192 + 32 * lv + s - 1 else if ph then 64 + s - 1 + 4 else 64 + s - 1
theorem firstByte_any (lg : Bool) (lv : Int) (ph : Bool) (A : Option Addr) (a : List Int) (c : Nat) (B : Option Addr) (b : List Int) (d : Nat) (s : Int) (w : World) (hs : 1 ≤ s ∧ s ≤ 4) (hr : rightB lg lv ph a b = true) :
    Calls Tryd.prog 37 #[HV lg lv ph A a c B b d, .int .i64 s] w fun r w' => r = .returned (.int .u8 (fB lg lv ph s)) ∧ Below w.heap.size w w' := by
  have hrr : (lg = true ∧ ph = false ∧ (lv = 0 ∨ lv = 1)) ∨ (lg = false ∧ lv = 2) := by
    unfold rightB at hr
    cases lg
    · simp at hr
      exact .inr ⟨rfl, hr.1.1⟩
    · simp at hr
      exact .inl ⟨rfl, hr.2, by omega⟩
  have hs4 : s = 1 ∨ s = 2 ∨ s = 3 ∨ s = 4 := by omega
  clear hr hs
  unfold HV
  rcases hrr with ⟨rfl, rfl, rfl | rfl⟩ | ⟨rfl, rfl⟩
  · rcases hs4 with rfl | rfl | rfl | rfl
    all_goals
      go_enter Tryd.func37, Tryd.ntmps37
      go_wp2_with fail
      go_ret
      exact ⟨rfl, (Below.refl _ _).alloc (Nat.le_refl _) _⟩
  · rcases hs4 with rfl | rfl | rfl | rfl
    all_goals
      go_enter Tryd.func37, Tryd.ntmps37
      go_wp2_with fail
      go_ret
      exact ⟨rfl, (Below.refl _ _).alloc (Nat.le_refl _) _⟩
  · cases ph <;> rcases hs4 with rfl | rfl | rfl | rfl
    all_goals
      go_enter Tryd.func37, Tryd.ntmps37
      go_wp2_with fail
      go_ret
      exact ⟨rfl, (Below.refl _ _).alloc (Nat.le_refl _) _⟩

theorem be_at (n : Int) : ∀ (s j : Nat), j < s → (be n s)[j]? = some (n / 256 ^ (s - 1 - j) % 256)
  | 0, j, h => by omega
  | k + 1, 0, _ => by simp [be]
  | k + 1, j + 1, h => by
    have := be_at n k j (by omega)
    rw [be, List.getElem?_cons_succ, this, show k + 1 - 1 - (j + 1) = k - 1 - j by omega]
set_option maxHeartbeats 800000 in
theorem appendNumber_any (A : Option Addr) (c : Nat) (P : List Int) (pn : Int) (s base : Nat) (w : World) (hown : Own w base A c P) (hP : P.length ≤ 1000) (hb : base ≤ w.heap.size) (hpn : 0 ≤ pn ∧ pn < 18446744073709551616) (hs : s ≤ 4) :
    Calls Tryd.prog 39 #[.slice A P.length c, .int .u64 pn, .int .i64 (s : Int)] w fun r w' => ∃ A' c', r = .returned (.slice A' (P ++ be pn s).length c') ∧ Own w' base A' c' (P ++ be pn s) ∧ Below base w w' := by
  have HPN := Lib.hid hpn
  have HO := Lib.hid hown
  obtain ⟨O, hO⟩ : ∃ O, O = P ++ be pn s := ⟨_, rfl⟩
  rw [← hO]
  have HOO := Lib.hid hO
  clear hown hO
  go_enter Tryd.func39, Tryd.ntmps39
  go_wp2_with fail
  go_loopw [0, 9] (fun p i wr => ∃ (j : Nat) (X : List Int) (A2 : Option Addr) (c2 : Nat), j ≤ s ∧ i = .int .i64 j ∧ X = P ++ (be pn s).take j ∧ p = .slice A2 X.length c2 ∧ Own wr base A2 c2 X ∧ Below base w wr) (fun _ i _ => s - (intOf i).toNat)
  case atStart => exact ⟨0, P, A, c, by omega, rfl, by simp, rfl, HO.out, Below.refl _ _⟩
  case round =>
    obtain ⟨j, X, A2, c2, hj, rfl, hX, rfl, hown, hbel⟩ := hrel
    have hXl : X.length ≤ 1004 := by rw [hX, List.length_append, List.length_take, be_length]; omega
    by_cases hjs : j < s
    · have hget := be_at pn s j hjs
      have HT := Lib.hid (show (be pn s).take (j + 1) = (be pn s).take j ++ [pn / 2 ^ (8 * (s - 1 - j)) % 256] by rw [List.take_add_one, hget, pow_shift]; rfl)
      have HX := Lib.hid hX
      have hsz := hbel.size
      have HOW := Lib.hid hown
      have HBE := Lib.hid hbel
      have e8 : (8 * ((s : Int) - 1 - (j : Int))).toNat = 8 * (s - 1 - j) := by omega
      have h8 : 0 ≤ 8 * ((s : Int) - 1 - (j : Int)) ∧ 8 * ((s : Int) - 1 - (j : Int)) ≤ 24 := by omega
      obtain ⟨Y, hY⟩ : ∃ Y, Y = X ++ [pn / 2 ^ (8 * (s - 1 - j)) % 256] := ⟨_, rfl⟩
      have HY := Lib.hid hY
      clear hX hget hown hbel hpn hY
      go_wp2_with (at_builtin; go_must (refine wpList_appX rfl (.tmp 12) (.tmp 21) rfl base (l := X) (news := [pn / 2 ^ (8 * (s - 1 - j)) % 256]) Y HY.out rfl rfl (HOW.out.below ((Below.refl _ _).alloc (Nat.le_refl _) _)) (Rd.of_own (own_lit1 wr _ (Nat.le_refl _))) (by simp; omega) (by simp; omega) ?_); intro A3 c3 w3 o3 g3 b3)
      go_roundw
      case rel =>
        refine ⟨j + 1, Y, A3, c3, by omega, by go_num, by rw [HY.out, HX.out, HT.out, List.append_assoc], rfl, o3, ?_⟩
        exact (HBE.out.trans ((Below.refl _ _).alloc (Nat.le_trans hb hsz) _)).trans b3
      case measure => simp [intOf]; omega
    · have hjj : j = s := by omega
      have hXe : X = O := by rw [HOO.out, hX, hjj, List.take_of_length_le (by rw [be_length]; exact Nat.le_refl _)]
      have HXE := Lib.hid hXe
      have HOW := Lib.hid hown
      have HBE := Lib.hid hbel
      have hnj : ¬ ((j : Int) < (s : Int)) := by omega
      clear hX hXe hown hbel hjj
      go_wp2_with fail
      go_ret
      rw [← HXE.out]
      exact ⟨A2, c2, rfl, HOW.out, HBE.out⟩
end Go.Proofs.YtjibbegdieiknaaDoor

/-
  head.appendLong.
-/
namespace Go.Proofs.YtjibbegdieiknaaDoor
open Go.RowKit
set_option linter.unusedVariables false
set_option linter.unusedSimpArgs false

/-- A row of the call's own beside a head's block and two names that lie below. -/
structure Al (w : World) (base gh : Nat) (x : Array Value) (A : Option Addr) (c : Nat) (P : List Int) (A1 : Option Addr) (c1 : Nat) (a : List Int) (B : Option Addr) (d : Nat) (b : List Int) : Prop where
  own : Own w base A c P
  blk : Blk w gh 25 x
  sa : SlB w base A1 c1 a
  sb : SlB w base B d b
  le : base ≤ w.heap.size
section
variable {w w' : World} {base gh : Nat} {x : Array Value} {A : Option Addr} {c : Nat} {P : List Int} {A1 : Option Addr} {c1 : Nat} {a : List Int} {B : Option Addr} {d : Nat} {b : List Int}
theorem Al.alloc (h : Al w base gh x A c P A1 c1 a B d b) (o : Obj) : Al (w.alloc o) base gh x A c P A1 c1 a B d b := by
  have bb : Below w.heap.size w (w.alloc o) := (Below.refl _ _).alloc (Nat.le_refl _) _
  exact ⟨h.own.below bb, h.blk.below bb h.blk.lt, h.sa.keep fun p hp => bb.cell (by have := h.le; omega), h.sb.keep fun p hp => bb.cell (by have := h.le; omega), Nat.le_trans h.le bb.size⟩
theorem Al.drew (h : Al w base gh x A c P A1 c1 a B d b) : Al w.drew base gh x A c P A1 c1 a B d b := ⟨h.own, h.blk, ⟨h.sa.rd, h.sa.le, h.sa.max, h.sa.nil⟩, ⟨h.sb.rd, h.sb.le, h.sb.max, h.sb.nil⟩, h.le⟩
theorem Al.below (h : Al w base gh x A c P A1 c1 a B d b) (bb : Below w.heap.size w w') : Al w' base gh x A c P A1 c1 a B d b :=
  ⟨h.own.below bb, h.blk.below bb h.blk.lt, h.sa.keep fun p hp => bb.cell (by have := h.le; omega), h.sb.keep fun p hp => bb.cell (by have := h.le; omega), Nat.le_trans h.le bb.size⟩
theorem Al.app (h : Al w base gh x A c P A1 c1 a B d b) {A' : Option Addr} {c' : Nat} {X : List Int} (o : Own w' base A' c' X) (hg : w.grownBy w' (Value.slice A P.length c).ownBlock) (hb : Below base w w') : Al w' base gh x A' c' X A1 c1 a B d b :=
  ⟨o, h.blk.grown hg (fun e => OwnV.other (e := 5) h.own (by decide) _ _ h.blk e.symm), h.sa.keep fun p hp => hb.cell hp, h.sb.keep fun p hp => hb.cell hp, Nat.le_trans h.le hg.size⟩
theorem Al.ra (h : Al w base gh x A c P A1 c1 a B d b) : Rd w A1 a := Reads.more h.sa.rd h.le
theorem Al.rb (h : Al w base gh x A c P A1 c1 a B d b) : Rd w B b := Reads.more h.sb.rd h.le
end
theorem rd_lit4 (w : World) (l : List Int) (hm : l.length ≤ 1000) : Rd (w.alloc (.cells (U8 l).toArray 5)) (some ⟨w.heap.size, 0, none⟩) l := Rd.of_own (own_lit4 w l (Nat.le_refl _) hm)

theorem Tab.under {w w' : World} (h : Tab w) {n : Nat} (hb : Below n w w') (hg : 2 < n) : Tab w' := by
  obtain ⟨h0, h1, h2, h3, h4⟩ := h
  exact ⟨Nat.lt_of_lt_of_le h0 hb.size, (hb.cell (p := ⟨2, _, none⟩) hg).trans h1, (hb.cell (p := ⟨2, _, none⟩) hg).trans h2, (hb.cell (p := ⟨2, _, none⟩) hg).trans h3, (hb.cell (p := ⟨2, _, none⟩) hg).trans h4⟩
def apL (lv : Int) (a b : List Int) (z : Int) : List Int := [0, 0, 0, 1] ++ [(a.length : Int)] ++ a ++ [(b.length : Int)] ++ b ++ (if lv = 0 then [0] else []) ++ wenc z 2

set_option maxHeartbeats 3200000 in
theorem appendLong_any (lv : Int) (A : Option Addr) (c : Nat) (P : List Int) (A1 : Option Addr) (c1 : Nat) (a : List Int) (B : Option Addr) (d : Nat) (b : List Int) (z : Int) (base : Nat) (w : World) (hown : Own w base A c P) (hP : P.length ≤ 1000) (hb : base ≤ w.heap.size)
    (hlv : lv = 0 ∨ lv = 1) (ha : a.length ≤ 20) (hbl : b.length ≤ 20) (sa : SlB w base A1 c1 a) (sb : SlB w base B d b) (hz : 0 ≤ z ∧ z < 16384) (ht : Tab w) (hg : 2 < base) :
    Calls Tryd.prog 38 #[.slice A P.length c, HV true lv false A1 a c1 B b d, .int .i64 z] w fun r w' => ∃ A' c', r = .returned (.slice A' (P ++ apL lv a b z).length c') ∧ Own w' base A' c' (P ++ apL lv a b z) ∧ Below base w w' := by
  obtain ⟨O, hO⟩ : ∃ O, O = P ++ apL lv a b z := ⟨_, rfl⟩
  rw [← hO]
  have HO := Lib.hid hO
  have hba : Below base w (w.alloc (.cells #[.bool true, .int .i64 lv, .bool false, .slice A1 a.length c1, .slice B b.length d] 25)) := (Below.refl _ _).alloc hb _
  have S0 : Al (w.alloc (.cells #[.bool true, .int .i64 lv, .bool false, .slice A1 a.length c1, .slice B b.length d] 25)) base w.heap.size #[.bool true, .int .i64 lv, .bool false, .slice A1 a.length c1, .slice B b.length d] A c P A1 c1 a B d b :=
    ⟨hown.below ((Below.refl _ _).alloc (Nat.le_refl _) _), Blk.new _ _ _, sa.keep fun p hp => hba.cell hp, sb.keep fun p hp => hba.cell hp, by simp; omega⟩
  have HS := Lib.hid S0
  have hsz1 : (w.alloc (.cells #[.bool true, .int .i64 lv, .bool false, .slice A1 a.length c1, .slice B b.length d] 25)).heap.size = w.heap.size + 1 := by simp
  have RL0 := Lib.hid (show Rd ((w.alloc (.cells #[.bool true, .int .i64 lv, .bool false, .slice A1 a.length c1, .slice B b.length d] 25)).alloc (.cells #[.int .u8 0, .int .u8 0, .int .u8 0, .int .u8 1] 5)) (some ⟨w.heap.size + 1, 0, none⟩) [0, 0, 0, 1] from by
    have h := rd_lit4 (w.alloc (.cells #[.bool true, .int .i64 lv, .bool false, .slice A1 a.length c1, .slice B b.length d] 25)) [0, 0, 0, 1] (by decide)
    rw [hsz1] at h
    exact h)
  have HB := Lib.hid hba
  obtain ⟨X1, hX1⟩ : ∃ X, X = P ++ [0, 0, 0, 1] := ⟨_, rfl⟩
  obtain ⟨X2, hX2⟩ : ∃ X, X = X1 ++ [(a.length : Int)] := ⟨_, rfl⟩
  obtain ⟨X3, hX3⟩ : ∃ X, X = X2 ++ a := ⟨_, rfl⟩
  obtain ⟨X4, hX4⟩ : ∃ X, X = X3 ++ [(b.length : Int)] := ⟨_, rfl⟩
  obtain ⟨X5, hX5⟩ : ∃ X, X = X4 ++ b := ⟨_, rfl⟩
  have l1 : X1.length ≤ 1004 := by rw [hX1, List.length_append]; simp; omega
  have l2 : X2.length ≤ 1005 := by rw [hX2, List.length_append]; simp; omega
  have l3 : X3.length ≤ 1025 := by rw [hX3, List.length_append]; omega
  have l4 : X4.length ≤ 1026 := by rw [hX4, List.length_append]; simp; omega
  have l5 : X5.length ≤ 1046 := by rw [hX5, List.length_append]; omega
  have hfin : ∀ T : List Int, T = (if lv = 0 then [0] else []) ++ wenc z 2 → X5 ++ T = O := by
    intro T hT
    rw [hT, hO, hX5, hX4, hX3, hX2, hX1, apL]
    simp
  have HF := Lib.hid hfin
  have H1 := Lib.hid hX1
  have H2 := Lib.hid hX2
  have H3 := Lib.hid hX3
  have H4 := Lib.hid hX4
  have H5 := Lib.hid hX5
  have HT := Lib.hid ht
  have HP := Lib.hid hP
  have HG := Lib.hid hg
  have hwa : IntKind.u8.wrap (a.length : Int) = (a.length : Int) := by rw [IntKind.wrap_u8]; omega
  have hwb : IntKind.u8.wrap (b.length : Int) = (b.length : Int) := by rw [IntKind.wrap_u8]; omega
  unfold HV
  clear hg hO hba S0 hsz1 hX1 hX2 hX3 hX4 hX5 hfin hown sa sb ht
  obtain ⟨hz1, hz2⟩ := hz
  obtain ⟨WW, hWW⟩ : ∃ WW, WW = wenc z 2 := ⟨_, rfl⟩
  have hwl : WW.length = 2 := by rw [hWW]; exact wenc_length _ _ (by omega)
  have HWW := Lib.hid hWW
  have HWL : WW.length ≤ 2 := by omega
  rcases hlv with rfl | rfl
  · obtain ⟨X6, hX6⟩ : ∃ X, X = X5 ++ [0] := ⟨_, rfl⟩
    have l6 : X6.length ≤ 1047 := by rw [hX6, List.length_append]; simp; omega
    have H7 := Lib.hid (show O = X6 ++ WW by rw [hX6, hWW, List.append_assoc]; exact (HF.out _ rfl).symm)
    have H6 := Lib.hid hX6
    clear hX6 hWW hwl
    go_enter Tryd.func38, Tryd.ntmps38
    have r0 := HS.out.blk.cell 3
    clear hP hb
    go_wp2_with (first
      | (at_builtin
         refine wpList_appX rfl (.tmp 9) (.tmp 10) rfl base (l := P) (news := [0, 0, 0, 1]) X1 H1.out rfl rfl (HS.out.alloc _).own RL0.out (by have := HP.out; simp; omega) (HS.out.alloc _).le ?_
         intro A3 c3 w3 o3 g3 b3
         have S1 := Lib.hid ((HS.out.alloc _).app o3 g3 b3)
         have B1 := Lib.hid ((HB.out.trans ((Below.refl _ _).alloc HS.out.le _)).trans b3)
         have r1 := S1.out.blk.cell 3
         clear o3 g3 b3)
      | (at_builtin
         refine wpList_appX rfl (.tmp 12) (.tmp 17) rfl base (l := X1) (news := [(a.length : Int)]) X2 H2.out rfl rfl (S1.out.alloc _).own (Rd.of_own (own_lit1 w3 (a.length : Int) (Nat.le_refl _))) (by simp; omega) (S1.out.alloc _).le ?_
         intro A4 c4 w4 o4 g4 b4
         have S2 := Lib.hid ((S1.out.alloc _).app o4 g4 b4)
         have B2 := Lib.hid ((B1.out.trans ((Below.refl _ _).alloc S1.out.le _)).trans b4)
         have r2 := S2.out.blk.cell 3
         clear o4 g4 b4)
      | (at_builtin
         refine wpList_appX rfl (.tmp 19) (.tmp 21) rfl base (l := X2) (news := a) X3 H3.out rfl rfl S2.out.own S2.out.ra (by omega) S2.out.le ?_
         intro A5 c5 w5 o5 g5 b5
         have S3 := Lib.hid (S2.out.app o5 g5 b5)
         have B3 := Lib.hid (B2.out.trans b5)
         have r3 := S3.out.blk.cell 4
         clear o5 g5 b5)
      | (at_builtin
         refine wpList_appX rfl (.tmp 23) (.tmp 28) rfl base (l := X3) (news := [(b.length : Int)]) X4 H4.out rfl rfl (S3.out.alloc _).own (Rd.of_own (own_lit1 w5 (b.length : Int) (Nat.le_refl _))) (by simp; omega) (S3.out.alloc _).le ?_
         intro A6 c6 w6 o6 g6 b6
         have S4 := Lib.hid ((S3.out.alloc _).app o6 g6 b6)
         have B4 := Lib.hid ((B3.out.trans ((Below.refl _ _).alloc S3.out.le _)).trans b6)
         have r4 := S4.out.blk.cell 4
         clear o6 g6 b6)
      | (at_builtin
         refine wpList_appX rfl (.tmp 30) (.tmp 32) rfl base (l := X4) (news := b) X5 H5.out rfl rfl S4.out.own S4.out.rb (by omega) S4.out.le ?_
         intro A7 c7 w7 o7 g7 b7
         have S5 := Lib.hid (S4.out.app o7 g7 b7)
         have B5 := Lib.hid (B4.out.trans b7)
         have r5 := S5.out.blk.cell 1
         clear o7 g7 b7)
      | (at_builtin
         refine wpList_appX rfl (.tmp 37) (.tmp 38) rfl base (l := X5) (news := [0]) X6 H6.out rfl rfl (S5.out.alloc _).own (Rd.of_own (own_lit1 w7 0 (Nat.le_refl _))) (by simp; omega) (S5.out.alloc _).le ?_
         intro A8 c8 w8 o8 g8 b8
         have S6 := Lib.hid ((S5.out.alloc _).app o8 g8 b8)
         have B6 := Lib.hid ((B5.out.trans ((Below.refl _ _).alloc S5.out.le _)).trans b8)
         clear o8 g8 b8))
    refine (wide_ok z 2 2 16384 1 w8 (HT.out.under B6.out HG.out) (by unfold IsSize; omega) hz1 hz2).mono ?_
    rintro e w9 ⟨A9, c9, rfl, o9, b9⟩
    rw [← HWW.out] at o9 ⊢
    have S7 := Lib.hid (S6.out.below b9)
    have B7 := Lib.hid (B6.out.trans (b9.mono S6.out.le))
    have R9 := Lib.hid (Rd.of_own o9)
    clear o9 b9
    go_wp2_with (at_builtin
                 refine wpList_appX rfl (.tmp 46) (.tmp 47) rfl base (l := X6) (news := WW) O H7.out rfl rfl S7.out.own R9.out (by omega) S7.out.le ?_
                 intro A10 c10 w10 o10 g10 b10
                 have S8 := Lib.hid o10
                 have B8 := Lib.hid (B7.out.trans b10)
                 clear o10 g10 b10)
    go_ret
    exact ⟨_, _, rfl, S8.out, B8.out⟩
  · obtain ⟨X6, hX6⟩ : ∃ X, X = X5 := ⟨_, rfl⟩
    have l6 : X6.length ≤ 1047 := by rw [hX6]; omega
    have H7 := Lib.hid (show O = X6 ++ WW by rw [hX6, hWW]; exact (HF.out _ (by rw [if_neg (by decide), List.nil_append])).symm)
    have H6 := Lib.hid hX6
    clear hX6 hWW hwl
    go_enter Tryd.func38, Tryd.ntmps38
    have r0 := HS.out.blk.cell 3
    clear hP hb
    go_wp2_with (first
      | (at_builtin
         refine wpList_appX rfl (.tmp 9) (.tmp 10) rfl base (l := P) (news := [0, 0, 0, 1]) X1 H1.out rfl rfl (HS.out.alloc _).own RL0.out (by have := HP.out; simp; omega) (HS.out.alloc _).le ?_
         intro A3 c3 w3 o3 g3 b3
         have S1 := Lib.hid ((HS.out.alloc _).app o3 g3 b3)
         have B1 := Lib.hid ((HB.out.trans ((Below.refl _ _).alloc HS.out.le _)).trans b3)
         have r1 := S1.out.blk.cell 3
         clear o3 g3 b3)
      | (at_builtin
         refine wpList_appX rfl (.tmp 12) (.tmp 17) rfl base (l := X1) (news := [(a.length : Int)]) X2 H2.out rfl rfl (S1.out.alloc _).own (Rd.of_own (own_lit1 w3 (a.length : Int) (Nat.le_refl _))) (by simp; omega) (S1.out.alloc _).le ?_
         intro A4 c4 w4 o4 g4 b4
         have S2 := Lib.hid ((S1.out.alloc _).app o4 g4 b4)
         have B2 := Lib.hid ((B1.out.trans ((Below.refl _ _).alloc S1.out.le _)).trans b4)
         have r2 := S2.out.blk.cell 3
         clear o4 g4 b4)
      | (at_builtin
         refine wpList_appX rfl (.tmp 19) (.tmp 21) rfl base (l := X2) (news := a) X3 H3.out rfl rfl S2.out.own S2.out.ra (by omega) S2.out.le ?_
         intro A5 c5 w5 o5 g5 b5
         have S3 := Lib.hid (S2.out.app o5 g5 b5)
         have B3 := Lib.hid (B2.out.trans b5)
         have r3 := S3.out.blk.cell 4
         clear o5 g5 b5)
      | (at_builtin
         refine wpList_appX rfl (.tmp 23) (.tmp 28) rfl base (l := X3) (news := [(b.length : Int)]) X4 H4.out rfl rfl (S3.out.alloc _).own (Rd.of_own (own_lit1 w5 (b.length : Int) (Nat.le_refl _))) (by simp; omega) (S3.out.alloc _).le ?_
         intro A6 c6 w6 o6 g6 b6
         have S4 := Lib.hid ((S3.out.alloc _).app o6 g6 b6)
         have B4 := Lib.hid ((B3.out.trans ((Below.refl _ _).alloc S3.out.le _)).trans b6)
         have r4 := S4.out.blk.cell 4
         clear o6 g6 b6)
      | (at_builtin
         refine wpList_appX rfl (.tmp 30) (.tmp 32) rfl base (l := X4) (news := b) X5 H5.out rfl rfl S4.out.own S4.out.rb (by omega) S4.out.le ?_
         intro A7 c7 w7 o7 g7 b7
         have S5 := Lib.hid (S4.out.app o7 g7 b7)
         have B5 := Lib.hid (B4.out.trans b7)
         have r5 := S5.out.blk.cell 1
         clear o7 g7 b7))
    refine (wide_ok z 2 2 16384 1 w7 (HT.out.under B5.out HG.out) (by unfold IsSize; omega) hz1 hz2).mono ?_
    rintro e w9 ⟨A9, c9, rfl, o9, b9⟩
    rw [← HWW.out] at o9 ⊢
    have S7 := Lib.hid (S5.out.below b9)
    have B7 := Lib.hid (B5.out.trans (b9.mono S5.out.le))
    have R9 := Lib.hid (Rd.of_own o9)
    clear o9 b9
    go_wp2_with (at_builtin
                 refine wpList_appX rfl (.tmp 46) (.tmp 47) rfl base (l := X5) (news := WW) O (H6.out ▸ H7.out) rfl rfl S7.out.own R9.out (by omega) S7.out.le ?_
                 intro A10 c10 w10 o10 g10 b10
                 have S8 := Lib.hid o10
                 have B8 := Lib.hid (B7.out.trans b10)
                 clear o10 g10 b10)
    go_ret
    exact ⟨_, _, rfl, S8.out, B8.out⟩
end Go.Proofs.YtjibbegdieiknaaDoor
