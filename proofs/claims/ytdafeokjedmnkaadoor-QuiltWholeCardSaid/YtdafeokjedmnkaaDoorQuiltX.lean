/-
  QuiltPlays: a quilt and the reference's one, side by side.
-/
import Derived.Test.YtdafeokjedmnkaaDoorQuiltW
import Derived.Test.YtdafeokjedmnkaaDoorQuiltP
import Derived.Test.YtdafeokjedmnkaaDoorOpenQuiltOp
namespace Go.Proofs.YtdafeokjedmnkaaDoor
open Go.RowKit Go.Maps
set_option linter.unusedVariables false
set_option linter.unusedSimpArgs false
theorem same_yes (A B : Option Addr) (c d : Nat) (a b : List Int) (w : World) (ha : Rd w A a) (hb : Rd w B b) (h1 : Bytes a) (h : a = b) :
    Calls Tryd.prog 17 #[.slice A a.length c, .slice B b.length d] w fun e w' => e = .returned (.bool true) ∧ w = w' := by
  refine (same_any A B c d a b w ha hb h1 (h ▸ h1)).mono ?_
  rintro e w' ⟨rfl, rfl⟩
  exact ⟨by simp [sameB, h], rfl⟩
theorem own_eq {w w' : World} {b c : Nat} {A : Option Addr} {l : List Int} (h : Own w b A c l) (he : ∀ g cur, Blk w g 5 cur → w'.heap[g]? = w.heap[g]?) : Own w' b A c l := by
  obtain ⟨h1, h2⟩ := h
  refine ⟨h1, ?_⟩
  rcases h2 with h2 | ⟨r, cap, cur, hv, hb, hh, z⟩
  · exact .inl h2
  · exact .inr ⟨r, cap, cur, hv, hb, (he r cur hh).trans hh, z⟩
theorem U8_set (l : List Int) (i : Nat) (y : Int) : U8 (l.set i y) = (U8 l).set i (.int .u8 y) := by simp [U8, List.map_set]
/-- A row of bytes stays one where a byte is written anywhere. -/
theorem own_any {W : World} {N g d i : Nat} {B : Option Addr} {cur : Array Value} {b : List Int} (h : Own W N B d b) (k : Blk W g 5 cur) (y : Int) : ∃ b', b'.length = b.length ∧ Own (W.setCell ⟨g, i, none⟩ (.int .u8 y)) N B d b' := by
  obtain ⟨h1, h2⟩ := h
  rcases h2 with ⟨h2, h3⟩ | ⟨g', cap, cur', hv, hg, hh, h3, h4, h5, h6⟩
  · exact ⟨b, rfl, h1, .inl ⟨h2, h3⟩⟩
  · by_cases e : g' = g
    · subst e
      refine ⟨b.set i y, by simp, ?_⟩
      unfold Own
      rw [U8_set, List.length_set]
      refine ⟨by simpa using h1, .inr ⟨g', cap, cur'.setIfInBounds i (.int .u8 y), hv, hg, Blk.set_ hh i _, h3, h4, by simpa using h5, ?_⟩⟩
      rw [Array.toList_setIfInBounds, List.take_set, h6]
    · exact ⟨b, rfl, h1, .inr ⟨g', cap, cur', hv, hg, Blk.far hh (p := ⟨g, i, none⟩) e _, h3, h4, h5, h6⟩⟩
theorem own_cell {W : World} {N c i : Nat} {A : Option Addr} {a : List Int} (h : Own W N A c a) (hi : i < a.length) : ∃ g x cur, A = some ⟨g, 0, none⟩ ∧ N ≤ g ∧ W.cell? ⟨g, i, none⟩ = some (.int .u8 x) ∧ W.frozen? ⟨g, i, none⟩ = false ∧ Blk W g 5 cur := by
  obtain ⟨g, hA, hN, _⟩ := h.form (by omega)
  subst hA
  have hr := Rd.of_own h
  rcases h.2 with ⟨h2, h3⟩ | ⟨g', cap, cur', hv, hg, hh, _⟩
  · omega
  · injection hv with e1
    injection e1 with e1
    injection e1 with e1
    subst e1
    exact ⟨g, a[i], cur', rfl, hN, by simpa using hr.cell (List.getElem?_eq_getElem hi), Blk.frozen hh i, hh⟩
theorem MapU.same {w w' : World} {B n : Nat} {pt : Int → Option Nat} (h : MapU w B n pt) (he : w'.heap[B]? = w.heap[B]?) : MapU w' B n pt := by
  obtain ⟨D, ⟨es, ck, hb, r⟩, h2⟩ := h
  exact ⟨D, ⟨es, ck, he.trans hb, r⟩, h2⟩
theorem MapU.obj {w : World} {B n : Nat} {pt : Int → Option Nat} (h : MapU w B n pt) : ∃ es ck, w.heap[B]? = some (.map es ck) := by
  obtain ⟨D, ⟨es, ck, hb, r⟩, h2⟩ := h
  exact ⟨es, ck, hb⟩
theorem PatAt.eqs {w w' : World} {base B n : Nat} {pt : Int → Option Nat} {f : Int → Option Int} {rd : Int} (h : PatAt w base B n pt f rd) (hB : w'.heap[B]? = w.heap[B]?) (hp : ∀ j g, pt j = some g → w'.heap[g]? = w.heap[g]?) : PatAt w' base B n pt f rd := by
  refine ⟨h.map.same hB, h.bge, fun j g hj => ?_, h.inj, h.has⟩
  obtain ⟨h1, h2, c, m, H, bs, h3, h4⟩ := h.ent j g hj
  exact ⟨h1, h2, c, m, H, bs, h3.keep ((hp j g hj).trans h3.blk), h4⟩
/-- A quilt stands while blocks x and B, which are none of its own, are written. -/
theorem Qlt.two {w w' : World} {base g n x B : Nat} {s : QS} {cs : Array Value} {es : Array MapEntry} {ck : Nat} (h : Qlt w base g n s) (hx : Blk w x 50 cs) (hB : w.heap[B]? = some (.map es ck)) (hne : w.cell? ⟨g, 0, none⟩ ≠ some (.map (some B))) (k : Two w w' x B) : Qlt w' base g n s := by
  obtain ⟨M, h1, h2⟩ := h.q
  have hno : ∀ q T cs', Blk w q T cs' → T ≠ 50 → w'.heap[q]? = w.heap[q]? := fun q T cs' hb hT => k.block q hb.lt (Blk.ne_ hb hx hT) (fun e => by
    subst e
    rw [show w.heap[q]? = _ from hb] at hB
    cases hB)
  have c0 := h1.cell 0
  simp [QV] at c0
  refine ⟨⟨M, (hno _ _ _ h1 (by decide)).trans h1, ?_⟩, h.ok, h.hg⟩
  rcases h2 with h2 | ⟨B', pt, h2, h3⟩
  · exact .inl h2
  · refine .inr ⟨B', pt, h2, h3.eqs ?_ (fun j gp hj => ?_)⟩
    · refine k.block B' h3.map.lt (fun e => ?_) (fun e => ?_)
      · exact h3.map.ne hx e.symm
      · subst e
        subst h2
        exact hne c0
    · obtain ⟨cs', hb⟩ := h3.block hj
      exact hno _ _ _ hb (by decide)
/-- Side by side: the program's quilt at g stands for s, the reference's at x for t. -/
structure St (w wr : World) (base g x B m n : Nat) (s t : QS) : Prop where
  q : Qlt wr base g m s
  r : RQ wr x B n t
  ne : wr.cell? ⟨g, 0, none⟩ ≠ some (.map (some B))
  b : Below w.heap.size w wr
  z : base ≤ wr.heap.size
  wb : w.heap.size ≤ base
  hx : w.heap.size ≤ x
  hB : w.heap.size ≤ B
section
variable {w W W' : World} {base g x B m n m' n' : Nat} {s t s' t' : QS}
theorem St.gx (h : St w W base g x B m n s t) : x ≠ g := by
  obtain ⟨M, h1, _⟩ := h.q.q
  exact Blk.ne_ h.r.q h1 (by decide)
theorem St.qput (h : St w W base g x B m n s t) (k : KeepT W W' g) (b : Below base W W') (q : Qlt W' base g m' s') : St w W' base g x B m' n s' t := by
  obtain ⟨es, ck, hb⟩ := h.r.m.obj
  have h2 := k.2 B es ck hb h.ne
  exact ⟨q, ⟨k.blk h.gx (by decide) h.r.q, h.r.m.same (h2.1.trans hb.symm)⟩, h2.2, h.b.trans (b.mono h.wb), Nat.le_trans h.z b.size, h.wb, h.hx, h.hB⟩
theorem St.rput (h : St w W base g x B m n s t) (k : Two W W' x B) (r : RQ W' x B n' t') : St w W' base g x B m n' s t' := by
  obtain ⟨es, ck, hb⟩ := h.r.m.obj
  have hz := h.b.size
  refine ⟨h.q.two h.r.q hb h.ne k, r, ?_, h.b.trans (k.below h.hx h.hB hz), Nat.le_trans h.z k.size, h.wb, h.hx, h.hB⟩
  rw [World.cell?_of_block (w := W) (a := ⟨g, 0, none⟩) (k.block g h.q.lt (Ne.symm h.gx) (h.q.neM hb))]
  exact h.ne
theorem St.below (h : St w W base g x B m n s t) (b : Below W.heap.size W W') : St w W' base g x B m n s t :=
  ⟨h.q.keep b, h.r.below b, cell0_below h.q h.ne b, h.b.trans (b.mono h.b.size), Nat.le_trans h.z b.size, h.wb, h.hx, h.hB⟩
theorem St.alloc (h : St w W base g x B m n s t) (o : Obj) : St w (W.alloc o) base g x B m n s t := h.below ((Below.refl _ _).alloc (Nat.le_refl _) _)
theorem St.grown (h : St w W base g x B m n s t) (k : W.grownBy W' none) : St w W' base g x B m n s t := h.below ⟨k.os, k.tape, k.output, k.size, fun i hi => k.block i hi (by simp)⟩
theorem St.drewN (h : St w W base g x B m n s t) (k : Nat) : St w (W.drewN k) base g x B m n s t :=
  ⟨h.q.drewN k, h.r.drewN k, h.ne, below_drewN h.b k, h.z, h.wb, h.hx, h.hB⟩
/-- A byte of the call's own is written. -/
theorem St.byte (h : St w W base g x B m n s t) {r i : Nat} {cur : Array Value} (k : Blk W r 5 cur) (hr : w.heap.size ≤ r) (u : Value) : St w (W.setCell ⟨r, i, none⟩ u) base g x B m n s t := by
  obtain ⟨es, ck, hb⟩ := h.r.m.obj
  have hz := h.b.size
  have hg : W.grownBy (W.setCell ⟨r, i, none⟩ u) (some r) := gb_set (gb_refl _ _) (p := ⟨r, i, none⟩) rfl _
  refine ⟨h.q.grown hg (fun q e => by injection e with e; subst e; exact ⟨_, _, k, by decide, by decide⟩), ⟨h.r.q.grown hg (by intro e; injection e with e; exact Blk.ne_ h.r.q k (by decide) e), h.r.m.kept hg (by intro e; injection e with e; exact (h.r.m.ne k) e.symm)⟩, ?_, h.b.setCell (p := ⟨r, i, none⟩) hr _, by simpa [World.setCell] using h.z, h.wb, h.hx, h.hB⟩
  obtain ⟨M, h1, _⟩ := h.q.q
  rw [World.cell?_of_block (w := W) (a := ⟨g, 0, none⟩) (hg.block g h.q.lt (by intro e; injection e with e; exact Blk.ne_ h1 k (by decide) e))]
  exact h.ne
theorem own_two (h : St w W base g x B m n s t) (k : Two W W' x B) {b c : Nat} {A : Option Addr} {l : List Int} (o : Own W b A c l) : Own W' b A c l :=
  own_eq o (fun q cur hq => k.block q hq.lt (Blk.ne_ hq h.r.q (by decide)) (h.r.m.ne hq))
theorem sep_own (h : St w W base g x B m n s t) {b c : Nat} {A : Option Addr} {l : List Int} (o : Own W b A c l) : ∀ ad, A = some ad → ad.block ≠ x ∧ ad.block ≠ B := by
  intro ad e
  rcases OwnV.row_is o with ⟨rfl, _⟩ | ⟨r, cur, rfl, _, hbl, _⟩
  · cases e
  · injection e with e
    subst e
    exact ⟨Blk.ne_ hbl h.r.q (by decide), h.r.m.ne hbl⟩
theorem blk_two (h : St w W base g x B m n s t) (k : Two W W' x B) {q : Nat} {T : TypeId} {cs : Array Value} (o : Blk W q T cs) (hT : T ≠ 50) : Blk W' q T cs :=
  (k.block q o.lt (Blk.ne_ o h.r.q hT) (h.r.m.ne o)).trans o
theorem blk_keep (h : St w W base g x B m n s t) (k : KeepT W W' g) {q : Nat} {T : TypeId} {cs : Array Value} (o : Blk W q T cs) (hT : T ≠ 63) (hT2 : T ≠ 67) : Blk W' q T cs := by
  obtain ⟨M, h1, _⟩ := h.q.q
  exact k.blk (Blk.ne_ o h1 hT) hT2 o
/-- Both Puts of the same piece. -/
theorem St.Put (h : St w W base g x B m n s t) (ht : TabT w) (hgl : 0 < w.heap.size) {b c : Nat} {A : Option Addr} {p : List Int} (o : Own W b A c p) (hb : Bytes p) (hm : m ≤ 1000000000) {off : Int} (hw : (Lit.int .u64 off).wf = true) (hl : p.length ≤ 100000) (hT : s.T.length ≤ 1000000) (e : Bool) :
    Calls Tryd.prog 18 #[.pointer (some ⟨g, 0, none⟩), .int .u64 off, .slice A p.length c, .bool e] W fun r W' => r = .returned (.int .i64 (putCode s off p.length e)) ∧ (∃ s', (putCode s off p.length e = 0 → PutTo s off p e s') ∧ (putCode s off p.length e ≠ 0 → s' = s) ∧ St w W' base g x B (m + p.length) n s' t) ∧ KeepT W W' g ∧ Below base W W' := by
  refine (Put_any base g m s off A c p e W h.q (src_own o h.q hb) (ht.keep hgl h.b) (Nat.lt_of_lt_of_le hgl h.wb) h.z hm hw hl (by omega)).mono ?_
  rintro r w' ⟨rfl, ⟨s', h1, h2, q⟩, k, bb⟩
  exact ⟨rfl, ⟨s', h1, h2, h.qput k bb q⟩, k, bb⟩
theorem St.Close (h : St w W base g x B m n s t) (ht : TabT w) (hgl : 0 < w.heap.size) (hm : m ≤ 1000000000) {off : Int} (hw : (Lit.int .u64 off).wf = true) (hT : s.T.length ≤ 1000000) :
    Calls Tryd.prog 13 #[.pointer (some ⟨g, 0, none⟩), .int .u64 off] W fun r W' => r = .returned (.int .i64 (putCode s off 0 true)) ∧ (∃ s', (putCode s off 0 true = 0 → PutTo s off [] true s') ∧ (putCode s off 0 true ≠ 0 → s' = s) ∧ St w W' base g x B m n s' t) ∧ KeepT W W' g ∧ Below base W W' := by
  refine (Close_any base g m s off W h.q (ht.keep hgl h.b) (Nat.lt_of_lt_of_le hgl h.wb) h.z hm hw (by omega)).mono ?_
  rintro r w' ⟨rfl, ⟨s', h1, h2, q⟩, k, bb⟩
  exact ⟨rfl, ⟨s', h1, h2, h.qput k bb q⟩, k, bb⟩
theorem St.rPut (h : St w W base g x B m n s' t) (ok : QOk t) {b c : Nat} {A : Option Addr} {p : List Int} (o : Own W b A c p) (hb : Bytes p) (hn : n ≤ 1000000000) {off : Int} (hw : (Lit.int .u64 off).wf = true) (hl : p.length ≤ 100000) (e : Bool)
    (h1 : putCode t off p.length e = 0 → PutTo t off p e s') (h2 : putCode t off p.length e ≠ 0 → s' = t) :
    Calls Tryd.prog 14 #[.pointer (some ⟨x, 0, none⟩), .int .u64 off, .slice A p.length c, .bool e] W fun r W' => r = .returned (.int .i64 (putCode t off p.length e)) ∧ St w W' base g x B m (n + p.length) s' s' ∧ Two W W' x B := by
  refine (rPut_any x B n t off A c p e W h.r ok (Rd.of_own o) hb (sep_own h o) hw hl hn).mono ?_
  rintro r w' ⟨rfl, r1, k⟩
  exact ⟨rfl, h.rput k (r1 s' h1 h2), k⟩
theorem St.rClose (h : St w W base g x B m n s' t) (ok : QOk t) (hn : n ≤ 1000000000) {off : Int} (hw : (Lit.int .u64 off).wf = true)
    (h1 : putCode t off 0 true = 0 → PutTo t off [] true s') (h2 : putCode t off 0 true ≠ 0 → s' = t) :
    Calls Tryd.prog 14 #[.pointer (some ⟨x, 0, none⟩), .int .u64 off, .slice none 0 0, .bool true] W fun r W' => r = .returned (.int .i64 (putCode t off 0 true)) ∧ St w W' base g x B m n s' s' ∧ Two W W' x B := by
  refine (rPut_any x B n t off none 0 [] true W h.r ok (Rd.of_own (OwnV.nil W base 5 1)) (by intro x hx; cases hx) (by intro ad e; cases e) hw (by decide) hn).mono ?_
  rintro r w' ⟨rfl, r1, k⟩
  exact ⟨rfl, h.rput k (r1 s' h1 h2), k⟩
theorem St.Take (h : St w W base g x B m n s t) {most : Int} (hm : (Lit.int .i64 most).wf = true) (hT : s.T.length ≤ 1000000) {N : Nat} (hN : N = takeN s most) :
    Calls Tryd.prog 15 #[.pointer (some ⟨g, 0, none⟩), .int .i64 most] W fun r W' => (∃ A c, r = .returned (.tuple #[.slice A N c, .bool (s.en && decide (s.rd + N = s.hi))]) ∧ Own W' W.heap.size A c (tk s.f s.rd N)) ∧ St w W' base g x B m n (qTake s N) t ∧ KeepT W W' g := by
  refine (Take_any base g m s most N W h.q hm h.z hT hN).mono ?_
  rintro r w' ⟨h1, q, k, b⟩
  exact ⟨h1, h.qput k b q, k⟩
theorem St.rTake (h : St w W base g x B m n s' t) (ok : QOk t) {most : Int} (hm : (Lit.int .i64 most).wf = true) (hT : t.T.length ≤ 1000000) {N : Nat} (hN : N = takeN t most) :
    Calls Tryd.prog 16 #[.pointer (some ⟨x, 0, none⟩), .int .i64 most] W fun r W' => (∃ A c, r = .returned (.tuple #[.slice A N c, .bool (t.en && decide (t.rd + N = t.hi))]) ∧ Own W' W.heap.size A c (tk t.f t.rd N)) ∧ St w W' base g x B m n s' (qTake t N) ∧ Two W W' x B := by
  refine (rTake_any x B n t most N W h.r ok hm hT hN).mono ?_
  rintro r w' ⟨h1, q, k⟩
  exact ⟨h1, h.rput k q, k⟩
theorem St.Ready (h : St w W base g x B m n s s) {Y : Int} (hY : Y = s.wh - s.rd) : Calls Tryd.prog 19 #[.pointer (some ⟨g, 0, none⟩)] W fun r W' => r = .returned (.int .i64 Y) ∧ St w W' base g x B m n s s := by
  subst hY
  refine (Ready_any base g m s W h.q).mono ?_
  rintro r w' ⟨rfl, k, rfl⟩
  exact ⟨rfl, h.drewN k⟩
theorem St.rReady (h : St w W base g x B m n s s) (hT : s.T.length ≤ 1000000) {Y : Int} (hY : Y = s.wh - s.rd) : Calls Tryd.prog 20 #[.pointer (some ⟨x, 0, none⟩)] W fun r W' => r = .returned (.int .i64 Y) ∧ St w W' base g x B m n s s := by
  subst hY
  refine (rReady_any x B n s W h.r h.q.ok hT).mono ?_
  rintro r w' ⟨rfl, k, rfl⟩
  exact ⟨rfl, h.drewN k⟩
theorem St.Held (h : St w W base g x B m n s s) {Y : Int} (hY : Y = s.T.length - s.rd) : Calls Tryd.prog 21 #[.pointer (some ⟨g, 0, none⟩)] W fun r W' => r = .returned (.int .i64 Y) ∧ St w W' base g x B m n s s := by
  subst hY
  refine (Held_any base g m s W h.q).mono ?_
  rintro r w' ⟨rfl, rfl⟩
  exact ⟨rfl, h⟩
theorem St.rHeld (h : St w W base g x B m n s s) (hT : s.T.length ≤ 1000000) {Y : Int} (hY : Y = s.T.length - s.rd) : Calls Tryd.prog 22 #[.pointer (some ⟨x, 0, none⟩)] W fun r W' => r = .returned (.int .i64 Y) ∧ St w W' base g x B m n s s := by
  subst hY
  refine (rHeld_any x B n s W h.r h.q.ok hT).mono ?_
  rintro r w' ⟨rfl, k⟩
  exact ⟨rfl, h.grown k⟩
theorem St.Done (h : St w W base g x B m n s s) {Y : Bool} (hY : Y = (s.en && decide (s.rd = s.hi))) : Calls Tryd.prog 23 #[.pointer (some ⟨g, 0, none⟩)] W fun r W' => r = .returned (.bool Y) ∧ St w W' base g x B m n s s := by
  subst hY
  refine (Done_any base g m s W h.q).mono ?_
  rintro r w' ⟨rfl, k, rfl⟩
  exact ⟨rfl, h.drewN k⟩
theorem St.rDone (h : St w W base g x B m n s s) {Y : Bool} (hY : Y = (s.en && decide (s.rd = s.hi))) : Calls Tryd.prog 24 #[.pointer (some ⟨x, 0, none⟩)] W fun r W' => r = .returned (.bool Y) ∧ St w W' base g x B m n s s := by
  subst hY
  refine (rDone_any x B n s W h.r).mono ?_
  rintro r w' ⟨rfl, k, rfl⟩
  exact ⟨rfl, h.drewN k⟩
end
end Go.Proofs.YtdafeokjedmnkaaDoor
