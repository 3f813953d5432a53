/-
  Joined texts.
-/
import Derived.Test.YtjibbegdieiknaaDoorMaAO
import Derived.Lib.SliceRun
import Derived.Laws.CopyOwn
import Derived.Deep.MidRow
namespace Go.Proofs.YtjibbegdieiknaaDoor
set_option maxRecDepth 100000
open Go.RowKit
set_option linter.unusedVariables false

def putAt : Nat → List Int → List Int → List Int
  | _, [], b => b
  | o, v :: r, b => putAt (o + 1) r (b.set o v)
theorem putAt_is : ∀ (vs : List Int) (o : Nat) (b : List Int), o + vs.length ≤ b.length → putAt o vs b = b.take o ++ vs ++ b.drop (o + vs.length)
  | [], o, b, h => by simp [putAt]
  | v :: r, o, b, h => by
    simp only [List.length_cons] at h
    rw [putAt, putAt_is r (o + 1) (b.set o v) (by rw [List.length_set]; omega)]
    have e : b.set o v = b.take o ++ v :: b.drop (o + 1) := by rw [List.set_eq_take_append_cons_drop, if_pos (by omega)]
    have hl : (b.take o).length = o := by rw [List.length_take]; omega
    have e1 : (b.set o v).take (o + 1) = b.take o ++ [v] := by
      rw [e, List.take_append, hl, List.take_of_length_le (by omega), Nat.add_sub_cancel_left]
      rfl
    have e2 : (b.set o v).drop (o + 1 + r.length) = b.drop (o + (r.length + 1)) := by
      rw [e, List.drop_append, hl, List.drop_of_length_le (by omega), show o + 1 + r.length - o = r.length + 1 by omega, List.nil_append, List.drop_succ_cons, List.drop_drop]
      congr 1
      omega
    rw [e1, e2, List.length_cons]
    simp
theorem Dg.setBlk {w : World} {g : Nat} {st blk : List Int} {held total : Int} (h : Dg w g st blk held total) (i : Nat) (x : Int) (hi : i < 64) : Dg (w.setCell ⟨g, 8 + i, none⟩ (.int .u8 x)) g st (blk.set i x) held total := by
  refine ⟨?_, h.2.1, by rw [List.length_set]; exact h.2.2⟩
  have := h.1.set_ (8 + i) (.int .u8 x)
  have e : (IV .u32 st ++ IV .u8 blk ++ [Value.int .i64 held, Value.int .u64 total]).toArray.setIfInBounds (8 + i) (.int .u8 x) = (IV .u32 st ++ IV .u8 (blk.set i x) ++ [Value.int .i64 held, Value.int .u64 total]).toArray := by
    rw [List.setIfInBounds_toArray, List.append_assoc, List.set_append_right _ _ (by rw [IV_length, h.2.1]; omega), IV_length, h.2.1, Nat.add_sub_cancel_left, List.set_append_left _ _ (by rw [IV_length, h.2.2]; exact hi), List.append_assoc]
    simp [IV, List.map_set]
  rw [e] at this
  exact this
theorem Dg.setPut {g : Nat} {st : List Int} {held total : Int} : ∀ (vs : List Int) (o : Nat) (blk : List Int) (w : World), Dg w g st blk held total → o + vs.length ≤ 64 → Dg (w.setCells g (8 + o) (IV .u8 vs)) g st (putAt o vs blk) held total
  | [], o, blk, w, h, _ => h
  | v :: r, o, blk, w, h, hl => by
    simp only [List.length_cons] at hl
    exact Dg.setPut r (o + 1) _ _ (h.setBlk o v (by omega)) (by omega)
theorem Dg.setRange {w : World} {g : Nat} {st blk : List Int} {held total : Int} (h : Dg w g st blk held total) (vs : List Int) (o : Nat) (hl : o + vs.length ≤ 64) : Dg (w.setCells g (8 + o) (IV .u8 vs)) g st (blk.take o ++ vs ++ blk.drop (o + vs.length)) held total := by
  rw [← putAt_is vs o blk (by rw [h.2.2]; exact hl)]
  exact Dg.setPut vs o blk w h hl
theorem run_clear_any (w : World) (ty : TypeId) (b o n c : Nat) (hc : ∀ j, j < n → (w.cell? ⟨b, o + j, none⟩).isSome = true) (hf : ∀ j, j < n → w.frozen? ⟨b, o + j, none⟩ = false) :
    (Builtin.clear_ #[23] ty #[.slice (some ⟨b, o, none⟩) n c]).run Tryd.prog w = .ok (.tuple #[]) (w.setCells b o (IV .u8 (List.replicate n 0))) := by
  rcases Nat.eq_zero_or_pos n with rfl | hn
  · rfl
  · have := Lib.run_clear_slice (P := Tryd.prog) w 23 5 ty (.int .u8 0) rfl (fun w => by rfl) rfl rfl b o n c hn hc hf
    rw [this]
    simp [IV]

theorem wpList_clear {w : World} {ops : Array Oper} {rest : List Oper} {o : Oper} {a : Act} {Q : Exit → Act → World → Prop} (hgd : o.guard = none) (x : Operand)
    (ho : o.op = .call { callee := .builtin .clear, args := #[x], argTypes := #[23] }) (b off n c : Nat) (hx : a.eval x = .slice (some ⟨b, off, none⟩) n c)
    (hc : ∀ j, j < n → (w.cell? ⟨b, off + j, none⟩).isSome = true) (hf : ∀ j, j < n → w.frozen? ⟨b, off + j, none⟩ = false)
    (h : wpList Tryd.prog ops Q rest (a.put o.dst (.tuple #[])) (w.setCells b off (IV .u8 (List.replicate n 0)))) : wpList Tryd.prog ops Q (o :: rest) a w := by
  refine wpList_plain hgd fun K hK => ?_
  have hrun := run_clear_any w o.type b off n c hc hf
  unfold Oper.wp
  simp [execOp, ho, resolve, invoke, builtin, hx, hrun, Result.andThen]
  exact hK _ _ h

set_option maxRecDepth 100000 in
set_option maxHeartbeats 400000 in
theorem fill_any (g : Nat) (st blk : List Int) (total : Int) (w : World) (h e : Nat) (hd : Dg w g st blk h total) (hlt : h < 64) (he : h ≤ e) (he' : e ≤ 64) :
    Calls Tryd.prog 83 #[.pointer (some ⟨g, 0, none⟩), .int .i64 e] w fun r w' => r = .returned (.tuple #[]) ∧ Dg w' g st (blk.take h ++ List.replicate (e - h) 0 ++ blk.drop e) h total ∧ w.grownBy w' (some g) := by
  have hg := hd.1.lt
  have c72 := hd.atHeld
  have HD := Lib.hid hd
  have i1 : (0 : Int) ≤ h := by omega
  have i2 : (h : Int) ≤ e := by omega
  have i3 : (e : Int) ≤ 64 := by omega
  have ne1 : ¬ (64 = h) := by omega
  clear hd
  go_enter Tryd.func83, Tryd.ntmps83
  go_wp2_with fail
  go_still_tail 9, (by kernel_rfl)
  obtain ⟨w2, hw2⟩ : ∃ w2, w2 = w.drew := ⟨_, rfl⟩
  have d2 : Dg w2 g st blk h total := by rw [hw2]; exact HD.out
  have o2 : w.grownBy w2 (some g) := by rw [hw2]; exact only_drewN (World.grownBy.refl w _) 1
  change wpList _ _ _ _ _ w.drew
  rw [← hw2]
  refine wpList_clear rfl (.tmp 12) rfl g (8 + h) (e - h) (64 - h) ?_ ?_ ?_ ?_
  · simp [Act.eval]
  · intro j hj
    obtain ⟨x, hx⟩ : ∃ x, blk[h + j]? = some x := ⟨_, List.getElem?_eq_getElem (by rw [d2.2.2]; omega)⟩
    have := d2.atBlk hx
    rw [Nat.add_assoc, this]
    rfl
  · intro j hj
    exact d2.1.frozen _
  have d3 := d2.setRange (List.replicate (e - h) 0) h (by rw [List.length_replicate]; omega)
  rw [List.length_replicate, show h + (e - h) = e by omega] at d3
  have o3 := only_setCells (IV .u8 (List.replicate (e - h) 0)) (8 + h) w2 o2
  exact wpList_nil (bodyPost_end (v := .tuple #[]) (results_none (by rfl) _ _ _) (by rfl) ⟨rfl, d3, o3⟩)
end Go.Proofs.YtjibbegdieiknaaDoor

namespace Go.Proofs.YtjibbegdieiknaaDoor
set_option maxRecDepth 100000
open Go.RowKit
set_option linter.unusedVariables false

/-- The state behind k whole blocks of m. -/
def eat : Nat → St → List Int → St
  | 0, s, _ => s
  | k + 1, s, m => eat k (compr s (sch (m.take 64) 64)) (m.drop 64)
theorem eat_last : ∀ (k : Nat) (s : St) (m : List Int), eat (k + 1) s m = compr (eat k s m) (sch ((m.drop (64 * k)).take 64) 64)
  | 0, s, m => by simp [eat]
  | k + 1, s, m => by
    have h := eat_last k (compr s (sch (m.take 64) 64)) (m.drop 64)
    rw [List.drop_drop, show 64 + 64 * k = 64 * (k + 1) by omega] at h
    exact h
theorem eat_more : ∀ (k : Nat) (s : St) (m c : List Int), 64 * k ≤ m.length → eat k s (m ++ c) = eat k s m
  | 0, s, m, c, _ => rfl
  | k + 1, s, m, c, h => by
    rw [eat, eat, List.take_append_of_le_length (by omega), List.drop_append_of_le_length (by omega)]
    exact eat_more k _ _ c (by rw [List.length_drop]; omega)
theorem eat_ok : ∀ (k : Nat) (s : St) (m : List Int), s.ok → Bytes m → (eat k s m).ok
  | 0, s, m, h, _ => h
  | k + 1, s, m, h, hm => eat_ok k _ _ (compr_ok s _) (fun x hx => hm x (List.mem_of_mem_drop hx))

/-- The digest holds the message m, begun at s. -/
def Hs (w : World) (g : Nat) (s : St) (m : List Int) (total : Int) : Prop :=
  s.ok ∧ Bytes m ∧ ∃ blk, Dg w g (eat (m.length / 64) s m).list blk ((m.length % 64 : Nat) : Int) total ∧ Bytes blk ∧ blk.take (m.length % 64) = m.drop (64 * (m.length / 64))
theorem Hs.below {w w' : World} {g B : Nat} {s : St} {m : List Int} {total : Int} (h : Hs w g s m total) (hb : Below B w w') (hg : g < B) : Hs w' g s m total := by
  obtain ⟨h1, h2, blk, h3, h4⟩ := h
  exact ⟨h1, h2, blk, h3.below hb hg, h4⟩
theorem put_bytes {blk cs : List Int} (o : Nat) (hb : Bytes blk) (hc : Bytes cs) : Bytes (blk.take o ++ cs ++ blk.drop (o + cs.length)) := by
  intro x hx
  simp only [List.mem_append] at hx
  rcases hx with (hx | hx) | hx
  · exact hb x (List.mem_of_mem_take hx)
  · exact hc x hx
  · exact hb x (List.mem_of_mem_drop hx)
theorem tail_put {m cs blk : List Int} (hl : blk.length = 64) (ht : blk.take (m.length % 64) = m.drop (64 * (m.length / 64))) (hn : m.length % 64 + cs.length ≤ 64) :
    (blk.take (m.length % 64) ++ cs ++ blk.drop (m.length % 64 + cs.length)).take (m.length % 64 + cs.length) = (m ++ cs).drop (64 * (m.length / 64)) := by
  have h1 : (blk.take (m.length % 64) ++ cs).length = m.length % 64 + cs.length := by simp; omega
  rw [List.take_append_of_le_length (by omega), List.take_of_length_le (by omega), List.drop_append_of_le_length (by omega), ht]
/-- Fewer bytes than fill the block. -/
theorem Hs.part {w : World} {g : Nat} {s : St} {m cs blk : List Int} {total : Int} (h1 : s.ok) (h2 : Bytes m) (hc : Bytes cs) (hbl : blk.length = 64) (hb : Bytes blk) (ht : blk.take (m.length % 64) = m.drop (64 * (m.length / 64)))
    (hn : m.length % 64 + cs.length < 64) (hd : Dg w g (eat (m.length / 64) s m).list (blk.take (m.length % 64) ++ cs ++ blk.drop (m.length % 64 + cs.length)) ((m.length % 64 + cs.length : Nat) : Int) total) : Hs w g s (m ++ cs) total := by
  have e1 : (m ++ cs).length / 64 = m.length / 64 := by rw [List.length_append]; omega
  have e2 : (m ++ cs).length % 64 = m.length % 64 + cs.length := by rw [List.length_append]; omega
  refine ⟨h1, fun x hx => (List.mem_append.mp hx).elim (h2 x) (hc x), _, ?_, put_bytes (m.length % 64) hb hc, ?_⟩
  · rw [e1, e2, eat_more _ _ _ _ (by omega)]
    exact hd
  · rw [e1, e2]
    exact tail_put hbl ht (by omega)
/-- The block is full, and mixed in. -/
theorem Hs.full {w : World} {g : Nat} {s : St} {m cs blk : List Int} {total : Int} (h1 : s.ok) (h2 : Bytes m) (hc : Bytes cs) (hbl : blk.length = 64) (hb : Bytes blk) (ht : blk.take (m.length % 64) = m.drop (64 * (m.length / 64)))
    (hn : m.length % 64 + cs.length = 64)
    (hd : Dg w g (compr (eat (m.length / 64) s m) (sch (blk.take (m.length % 64) ++ cs ++ blk.drop (m.length % 64 + cs.length)) 64)).list (blk.take (m.length % 64) ++ cs ++ blk.drop (m.length % 64 + cs.length)) 0 total) : Hs w g s (m ++ cs) total := by
  have e1 : (m ++ cs).length / 64 = m.length / 64 + 1 := by rw [List.length_append]; omega
  have e2 : (m ++ cs).length % 64 = 0 := by rw [List.length_append]; omega
  have hp := tail_put (cs := cs) hbl ht (by omega)
  have hl : (blk.take (m.length % 64) ++ cs ++ blk.drop (m.length % 64 + cs.length)).length = 64 := by simp; omega
  rw [List.take_of_length_le (Nat.le_of_eq (hl.trans hn.symm))] at hp
  refine ⟨h1, fun x hx => (List.mem_append.mp hx).elim (h2 x) (hc x), _, ?_, put_bytes (m.length % 64) hb hc, ?_⟩
  · rw [e1, e2, eat_last, eat_more _ _ _ _ (by omega)]
    have e3 : ((m ++ cs).drop (64 * (m.length / 64))).take 64 = blk.take (m.length % 64) ++ cs ++ blk.drop (m.length % 64 + cs.length) := by
      rw [← hp, List.take_of_length_le (Nat.le_of_eq hl)]
    rw [e3]
    exact hd
  · rw [e1, e2, List.take_zero, List.drop_of_length_le (by rw [List.length_append]; omega)]
end Go.Proofs.YtjibbegdieiknaaDoor

namespace Go.Proofs.YtjibbegdieiknaaDoor
set_option maxRecDepth 100000
open Go.RowKit
set_option linter.unusedVariables false

/-- The bytes l lie behind A, apart from block g. -/
def RdN (w : World) (g : Nat) (A : Option Addr) (l : List Int) : Prop :=
  0 < l.length → ∃ b off, A = some ⟨b, off, none⟩ ∧ b ≠ g ∧ b < w.heap.size ∧ ∀ j x, l[j]? = some x → w.cell? ⟨b, off + j, none⟩ = some (.int .u8 x)
theorem RdN.of_rd {w : World} {g : Nat} {A : Option Addr} {l : List Int} (h : Rd w A l) (hne : 0 < l.length → ∀ a, A = some a → a.block ≠ g) : RdN w g A l := by
  intro hl
  obtain ⟨b, off, rfl, hb⟩ := h.some_ hl
  exact ⟨b, off, rfl, hne hl _ rfl, hb, fun j x hx => h.cell hx⟩
theorem RdN.grown {w w' : World} {g : Nat} {A : Option Addr} {l : List Int} (h : RdN w g A l) (hg : w.grownBy w' (some g)) : RdN w' g A l := by
  intro hl
  obtain ⟨b, off, rfl, hne, hb, hc⟩ := h hl
  exact ⟨b, off, rfl, hne, Nat.lt_of_lt_of_le hb hg.size, fun j x hx => (World.grownBy.cell_far hg ⟨b, off + j, none⟩ hb (by simpa using hne)).trans (hc j x hx)⟩
theorem RdN.from_ {w : World} {g b off : Nat} {l : List Int} (h : RdN w g (some ⟨b, off, none⟩) l) (k c : Nat) (hc : l.length ≤ c) : RdN w g (if c = k then some ⟨b, off, none⟩ else some ⟨b, off + k, none⟩) (l.drop k) := by
  intro hl
  rw [List.length_drop] at hl
  obtain ⟨b', off', e, hne, hb, hcc⟩ := h (by omega)
  cases e
  rw [if_neg (by omega)]
  refine ⟨b, off + k, rfl, hne, hb, fun j x hx => ?_⟩
  rw [List.getElem?_drop] at hx
  rw [Nat.add_assoc]
  exact hcc _ _ hx
theorem KTab.grown {w w' : World} {g : Nat} (h : KTab w) (hg : w.grownBy w' (some g)) (hne : 3 ≠ g) : KTab w' :=
  ⟨Nat.lt_of_lt_of_le h.1 hg.size, fun i x hx => (World.grownBy.cell_far hg ⟨_, i, none⟩ h.1 (by simpa using hne)).trans (h.2 i x hx)⟩
theorem only_setRow {a w : World} {g : Nat} (h : a.grownBy w (some g)) (cs : Array Value) : a.grownBy (w.setRow g cs) (some g) :=
  ⟨h.os, h.tape, h.output, by simpa [World.setRow] using h.size, fun i hi hne => (setRow_other w g i cs (by rintro rfl; exact hne rfl)).trans (h.block i hi hne)⟩
theorem Dg.splice {w : World} {g : Nat} {st blk : List Int} {held total : Int} (h : Dg w g st blk held total) (vs : List Int) (H : Nat) (hl : H + vs.length ≤ 64) :
    Dg (w.setRow g ((IV .u32 st ++ IV .u8 blk ++ [Value.int .i64 held, Value.int .u64 total]).toArray.toList.take (8 + H) ++ (IV .u8 vs ++ (IV .u32 st ++ IV .u8 blk ++ [Value.int .i64 held, Value.int .u64 total]).toArray.toList.drop (8 + H + (IV .u8 vs).length))).toArray) g st (blk.take H ++ vs ++ blk.drop (H + vs.length)) held total := by
  refine ⟨?_, h.2.1, by have := h.2.2; simp; omega⟩
  have e : (IV .u32 st ++ IV .u8 blk ++ [Value.int .i64 held, Value.int .u64 total]).toArray.toList.take (8 + H) ++ (IV .u8 vs ++ (IV .u32 st ++ IV .u8 blk ++ [Value.int .i64 held, Value.int .u64 total]).toArray.toList.drop (8 + H + (IV .u8 vs).length)) =
      IV .u32 st ++ IV .u8 (blk.take H ++ vs ++ blk.drop (H + vs.length)) ++ [Value.int .i64 held, Value.int .u64 total] := by
    have l1 : (IV .u32 st).length = 8 := by rw [IV_length, h.2.1]
    have l2 : (IV .u8 blk).length = 64 := by rw [IV_length, h.2.2]
    rw [List.toList_toArray, List.append_assoc, List.take_append, List.drop_append, l1, List.take_of_length_le (by omega), List.drop_of_length_le (by omega), IV_length, show 8 + H - 8 = H by omega, show 8 + H + vs.length - 8 = H + vs.length by omega,
      List.take_append_of_le_length (by omega), List.drop_append_of_le_length (by omega)]
    simp [IV, List.map_take, List.map_drop]
  rw [e]
  exact h.1.row _
theorem Dg.eq_total {w : World} {g : Nat} {st blk : List Int} {held t t' : Int} (h : Dg w g st blk held t) (e : t = t') : Dg w g st blk held t' := e ▸ h

set_option maxRecDepth 100000 in
set_option maxHeartbeats 800000 in
theorem write_any (g : Nat) (s : St) (m l : List Int) (A : Option Addr) (c : Nat) (w : World) (hd : Hs w g s m m.length) (hr : Rd w A l) (hbl : Bytes l) (hne : 0 < l.length → ∀ a, A = some a → a.block ≠ g) (hcap : l.length ≤ c) (hK : KTab w) (hg1 : 3 ≠ g) (hlen : m.length + l.length ≤ 1152921504606846976) :
    Calls Tryd.prog 67 #[.pointer (some ⟨g, 0, none⟩), .slice A l.length c] w fun r w' => r = .returned (.tuple #[]) ∧ Hs w' g s (m ++ l) (m ++ l).length ∧ w.grownBy w' (some g) := by
  obtain ⟨h1, h2, blk, hD, hB, hT⟩ := hd
  have hg := hD.1.lt
  have c73 := hD.atTotal
  have f73 := hD.1.frozen 73
  have HD := Lib.hid hD
  have HB := Lib.hid hB
  have HT := Lib.hid hT
  have HL := Lib.hid hlen
  have HR := Lib.hid (RdN.of_rd hr hne)
  have HBL := Lib.hid hbl
  have HK := Lib.hid hK
  have HC := Lib.hid hcap
  have i1 : IntKind.u64.wrap (l.length : Int) = l.length := IntWalk.u64_in _ (by omega)
  obtain ⟨T, hT2⟩ : ∃ T : Int, T = ((m ++ l).length : Int) := ⟨_, rfl⟩
  have i2 : IntKind.u64.wrap T = T := by
    rw [hT2, List.length_append, Int.natCast_add]
    exact IntWalk.u64_in _ (by omega)
  have i3 : (m.length : Int) + l.length = T := by rw [hT2]; simp
  rw [← hT2]
  have HT2 := Lib.hid hT2
  clear hD hB hT hlen hr hne hbl hK hT2 hcap
  go_enter Tryd.func67, Tryd.ntmps67
  go_wp2_with fail
  clear i1 i2 i3 c73 f73
  go_loopw [1] (fun p wr => ∃ (k : Nat) (A1 : Option Addr) (c1 : Nat), k ≤ l.length ∧ p = .slice A1 (l.drop k).length c1 ∧ (l.drop k).length ≤ c1 ∧ RdN wr g A1 (l.drop k) ∧ Hs wr g s (m ++ l.take k) T ∧ KTab wr ∧ w.grownBy wr (some g)) (fun p _ => match p with | .slice _ n _ => n | _ => 0)
  case atStart =>
    have o1 := only_setCell (World.grownBy.refl w (some g)) (p := ⟨g, 73, none⟩) (.inl rfl) (.int .u64 T)
    refine ⟨0, A, c, by omega, rfl, HC.out, HR.out.grown o1, ⟨h1, by simpa using h2, blk, ?_, HB.out, ?_⟩, ?_, o1⟩
    · simpa using HD.out.setTotal T
    · simpa using HT.out
    · exact HK.out.grown o1 hg1
  case round =>
    obtain ⟨k, A1, c1, hk, rfl, hc1, hrd, hs, hK, og⟩ := hrel
    by_cases hkl : k < l.length
    · have hpos : 0 < (l.drop k).length := by rw [List.length_drop]; omega
      obtain ⟨b, off, rfl, hbg, hbw, hcell⟩ := hrd hpos
      obtain ⟨-, hbm, bk, hD, hB, hT⟩ := hs
      have c72 := hD.atHeld
      obtain ⟨M, hM⟩ : ∃ M, M = m ++ l.take k := ⟨_, rfl⟩
      obtain ⟨R, hR⟩ : ∃ R, R = l.drop k := ⟨_, rfl⟩
      obtain ⟨H, hH⟩ : ∃ H, H = M.length % 64 := ⟨_, rfl⟩
      have hH64 : H < 64 := by omega
      rw [← hM] at hbm hD hT c72
      rw [← hR] at hpos hrd hcell hc1 ⊢
      rw [← hH] at hD hT c72
      have j1 : (0 : Int) ≤ H := by omega
      have j2 : (H : Int) ≤ 64 := by omega
      have j3 : ¬ (64 = H) := by omega
      have j4 : (0 : Int) < R.length := by omega
      have HD := Lib.hid hD
      have HB := Lib.hid hB
      have HT := Lib.hid hT
      have HM := Lib.hid hM
      have HR2 := Lib.hid hR
      have HH := Lib.hid hH
      have HRD := Lib.hid hrd
      have HCE := Lib.hid hcell
      have HK2 := Lib.hid hK
      have HOG := Lib.hid og
      have HBM := Lib.hid hbm
      have HC1 := Lib.hid hc1
      have HKL := Lib.hid hkl
      clear hD hB hT hM hR hH hrd hcell hK og hbm hc1 hkl hk hH64
      go_wp2_with fail
      go_still_tail 9, (by kernel_rfl)
      obtain ⟨w2, hw2⟩ : ∃ w2, w2 = wr.drew := ⟨_, rfl⟩
      change wpList _ _ _ _ _ wr.drew
      have d2 : Dg w2 g (eat (M.length / 64) s M).list bk H T := by rw [hw2]; exact HD.out
      have o2 : w.grownBy w2 (some g) := by rw [hw2]; exact only_drewN HOG.out 1
      have r2 : RdN w2 g (some ⟨b, off, none⟩) R := by rw [hw2]; exact HRD.out
      have k2 : KTab w2 := by rw [hw2]; exact HK2.out
      have ce2 : ∀ j x, R[j]? = some x → w2.cell? ⟨b, off + j, none⟩ = some (.int .u8 x) := by rw [hw2]; exact HCE.out
      rw [← hw2]
      clear hw2 HD HOG HRD HK2 HCE
      obtain ⟨n, hn⟩ : ∃ n, n = Nat.min R.length (64 - H) := ⟨_, rfl⟩
      have hnR : n ≤ R.length := by rw [hn]; exact Nat.min_le_left _ _
      have hnH : H + n ≤ 64 := by
        have h0 : Nat.min R.length (64 - H) ≤ 64 - H := Nat.min_le_right _ _
        rw [← hn] at h0
        omega
      have hn0 : 0 < n := by rw [hn]; exact Nat.lt_min.mpr ⟨hpos, by omega⟩
      have hdl : (l.drop (k + n)).length = R.length - n := by rw [HR2.out, List.length_drop, List.length_drop]; omega
      have hdr : l.drop (k + n) = R.drop n := by rw [HR2.out, List.drop_drop]
      have hmt : m ++ l.take (k + n) = M ++ R.take n := by rw [HM.out, HR2.out, List.take_add, List.append_assoc]
      have hkn : k + n ≤ l.length := by have e := congrArg List.length HR2.out; rw [List.length_drop] at e; have := HKL.out; omega
      have FACTS := Lib.hid (And.intro hdl (And.intro hdr (And.intro hmt (And.intro hkn d2.2.2))))
      clear hdl hdr hmt hkn
      have hvl : (R.take n).length = n := by rw [List.length_take]; omega
      refine wpList_copy_own rfl (.tmp 25) (.tmp 26) 23 23 rfl 5 rfl rfl g (8 + H) (64 - H) (64 - H) ⟨b, off, none⟩ R.length c1 ?_ ?_ _ _ d2.1 (IV .u8 (R.take n)) ?_ ?_ ?_ (IV_oneCell _ _) ?_
      · simp [Act.eval]
      · simp [Act.eval]
      · rw [IV_length, hvl, hn]
      · intro j v hv
        simp only [IV, List.getElem?_map] at hv
        rcases hq : (R.take n)[j]? with _ | x
        · rw [hq] at hv; cases hv
        · rw [hq] at hv
          cases hv
          rw [List.getElem?_take] at hq
          split at hq
          · rw [Addr.add_mid]; exact ce2 j x hq
          · cases hq
      · have := d2.2.1; have := d2.2.2; rw [IV_length, hvl]; simp [IV]; omega
      have d3 := d2.splice (R.take n) H (by rw [hvl]; exact hnH)
      have o3 := only_setRow o2 ((IV .u32 (eat (M.length / 64) s M).list ++ IV .u8 bk ++ [Value.int .i64 H, Value.int .u64 T]).toArray.toList.take (8 + H) ++ (IV .u8 (R.take n) ++ (IV .u32 (eat (M.length / 64) s M).list ++ IV .u8 bk ++ [Value.int .i64 H, Value.int .u64 T]).toArray.toList.drop (8 + H + (IV .u8 (R.take n)).length))).toArray
      have q3 := only_setRow (World.grownBy.refl w2 (some g)) ((IV .u32 (eat (M.length / 64) s M).list ++ IV .u8 bk ++ [Value.int .i64 H, Value.int .u64 T]).toArray.toList.take (8 + H) ++ (IV .u8 (R.take n) ++ (IV .u32 (eat (M.length / 64) s M).list ++ IV .u8 bk ++ [Value.int .i64 H, Value.int .u64 T]).toArray.toList.drop (8 + H + (IV .u8 (R.take n)).length))).toArray
      generalize w2.setRow g _ = w3 at d3 o3 q3 ⊢
      rw [IV_length, hvl]
      have r3 := r2.grown q3
      have k3 := k2.grown q3 hg1
      rw [hvl] at d3
      have bB := put_bytes H HB.out (HBL.out.drop k |> fun h => (by rw [← HR2.out] at h; exact h.take n))
      rw [hvl] at bB
      have c3 := d3.atHeld
      have f3 := d3.1.frozen 72
      have o4 := only_setCell o3 (p := ⟨g, 72, none⟩) (.inl rfl) (.int .i64 ((H : Int) + n))
      have q4 := only_setCell q3 (p := ⟨g, 72, none⟩) (.inl rfl) (.int .i64 ((H : Int) + n))
      have d4 := d3.setHeld ((H : Int) + n)
      have k4 := k2.grown q4 hg1
      have r4 := r2.grown q4
      have n1 : (0 : Int) ≤ n := by omega
      have n2 : (n : Int) ≤ R.length := by omega
      have n3 : (R.length : Int) ≤ c1 := by have := HC1.out; omega
      have n4 : n ≤ c1 := by omega
      have n5 : n ≤ R.length := hnR
      have hok := eat_ok (M.length / 64) s M h1 HBM.out
      by_cases hful : H + n = 64
      · have n6 : (H : Int) + n = 64 := by omega
        rw [n6] at d4 o4 q4 k4 r4
        have C := Lib.hid (mix_any g _ _ _ _ _ d4 bB hok k4 hg1)
        have n7 : IntKind.i64.wrap 64 = 64 := by rfl
        have HD4 := Lib.hid d4
        have HK4 := Lib.hid k4
        have HR4 := Lib.hid r4
        have HO4 := Lib.hid o4
        have HHN := Lib.hid hn
        have HVL := Lib.hid hvl
        have HF := Lib.hid hful
        clear d4 k4 r4 o4 hn hvl hful d3 d2 o3 q3 q4 r3 k3 r2 k2 o2 ce2 bB hok hnH
        go_wp2_with (go_at_call 82; refine C.out.mono ?_; rintro e w5 ⟨rfl, d5, o5⟩)
        obtain ⟨hdl, hdr, hmt, hkn, hbk⟩ := FACTS.out
        refine ⟨⟨k + n, _, c1 - n, hkn, by rw [hdl], by rw [hdl]; have := HC1.out; omega, ?_, ?_, HK4.out.grown o5 hg1, only_trans HO4.out o5⟩, ?_⟩
        · rw [hdr]; exact (HR4.out.from_ n c1 HC1.out).grown o5
        · rw [hmt]
          have hHH := HH.out
          have hFF := HF.out
          have hTT := HT.out
          have hV := HVL.out
          have hkt : Bytes (R.take n) := by have h := HBL.out.drop k; rw [← HR2.out] at h; exact h.take n
          refine Hs.full (blk := bk) h1 HBM.out hkt hbk HB.out (by rw [← hHH]; exact hTT) (by rw [← hHH, hV]; exact hFF) ?_
          rw [← hHH, hV]
          exact d5
        · show R.length - n < R.length
          omega
      · have n6 : ¬ ((H : Int) + n = 64) := by omega
        have n7 : IntKind.i64.wrap ((H : Int) + n) = (H : Int) + n := IntWalk.i64_in _ (by omega)
        have hlt : H + n < 64 := by omega
        have HD4 := Lib.hid d4
        have HK4 := Lib.hid k4
        have HR4 := Lib.hid r4
        have HO4 := Lib.hid o4
        have HHN := Lib.hid hn
        have HVL := Lib.hid hvl
        have HF := Lib.hid hlt
        clear d4 k4 r4 o4 hn hvl hlt hful d3 d2 o3 q3 q4 r3 k3 r2 k2 o2 ce2 bB hok hnH
        go_wp2_with fail
        obtain ⟨hdl, hdr, hmt, hkn, hbk⟩ := FACTS.out
        refine ⟨⟨k + n, _, c1 - n, hkn, by rw [hdl], by rw [hdl]; have := HC1.out; omega, ?_, ?_, HK4.out, HO4.out⟩, ?_⟩
        · rw [hdr]; exact HR4.out.from_ n c1 HC1.out
        · rw [hmt]
          have hHH := HH.out
          have hFF := HF.out
          have hTT := HT.out
          have hV := HVL.out
          have hkt : Bytes (R.take n) := by have h := HBL.out.drop k; rw [← HR2.out] at h; exact h.take n
          refine Hs.part (blk := bk) h1 HBM.out hkt hbk HB.out (by rw [← hHH]; exact hTT) (by rw [← hHH, hV]; exact hFF) ?_
          rw [← hHH, hV, Int.natCast_add]
          exact HD4.out
        · show R.length - n < R.length
          omega
    · obtain rfl : k = l.length := by omega
      rw [List.take_of_length_le (Nat.le_refl _)] at hs
      have e0 : (l.drop l.length).length = 0 := by simp
      rw [e0] at hc1 ⊢
      have HS := Lib.hid hs
      have HOG := Lib.hid og
      clear hs og hrd hK hc1 hkl hk e0
      go_wp2_with fail
      exact bodyPost_end (v := .tuple #[]) (results_none (by rfl) _ _ _) (by rfl) ⟨rfl, HS.out, HOG.out⟩
end Go.Proofs.YtjibbegdieiknaaDoor
