import Derived.Test.YtfpgnaeiiponmaaDoorShaC
import Derived.Lib.SliceRun
namespace Go.Proofs.YtfpgnaeiiponmaaDoor
open Go.RowKit
set_option linter.unusedVariables false

def putAt : Nat → List Int → List Int → List Int
  | _, [], b => b
  | o, v :: r, b => putAt (o + 1) r (b.set o v)
theorem putAt_is : ∀ (vs : List Int) (o : Nat) (b : List Int), o + vs.length ≤ b.length → putAt o vs b = b.take o ++ vs ++ b.drop (o + vs.length)
  | [], o, b, h => by simp [putAt]
  | v :: r, o, b, h => by
    simp only [List.length_cons] at h
    rw [putAt, putAt_is r (o + 1) (b.set o v) (by rw [List.length_set]; omega)]
    have e : b.set o v = b.take o ++ v :: b.drop (o + 1) := by rw [List.set_eq_take_append_cons_drop, if_pos (by omega)]
    have hl : (b.take o).length = o := by rw [List.length_take]; omega
    have e1 : (b.set o v).take (o + 1) = b.take o ++ [v] := by
      rw [e, List.take_append, hl, List.take_of_length_le (by omega), Nat.add_sub_cancel_left]
      rfl
    have e2 : (b.set o v).drop (o + 1 + r.length) = b.drop (o + (r.length + 1)) := by
      rw [e, List.drop_append, hl, List.drop_of_length_le (by omega), show o + 1 + r.length - o = r.length + 1 by omega, List.nil_append, List.drop_succ_cons, List.drop_drop]
      congr 1
      omega
    rw [e1, e2, List.length_cons]
    simp
theorem Dg.setBlk {w : World} {g : Nat} {st blk : List Int} {held total : Int} (h : Dg w g st blk held total) (i : Nat) (x : Int) (hi : i < 64) : Dg (w.setCell ⟨g, 8 + i, none⟩ (.int .u8 x)) g st (blk.set i x) held total := by
  refine ⟨?_, h.2.1, by rw [List.length_set]; exact h.2.2⟩
  have := h.1.set_ (8 + i) (.int .u8 x)
  have e : (IV .u32 st ++ IV .u8 blk ++ [Value.int .i64 held, Value.int .u64 total]).toArray.setIfInBounds (8 + i) (.int .u8 x) = (IV .u32 st ++ IV .u8 (blk.set i x) ++ [Value.int .i64 held, Value.int .u64 total]).toArray := by
    rw [List.setIfInBounds_toArray, List.append_assoc, List.set_append_right _ _ (by rw [IV_length, h.2.1]; omega), IV_length, h.2.1, Nat.add_sub_cancel_left, List.set_append_left _ _ (by rw [IV_length, h.2.2]; exact hi), List.append_assoc]
    simp [IV, List.map_set]
  rw [e] at this
  exact this
theorem Dg.setPut {g : Nat} {st : List Int} {held total : Int} : ∀ (vs : List Int) (o : Nat) (blk : List Int) (w : World), Dg w g st blk held total → o + vs.length ≤ 64 → Dg (w.setCells g (8 + o) (IV .u8 vs)) g st (putAt o vs blk) held total
  | [], o, blk, w, h, _ => h
  | v :: r, o, blk, w, h, hl => by
    simp only [List.length_cons] at hl
    exact Dg.setPut r (o + 1) _ _ (h.setBlk o v (by omega)) (by omega)
theorem Dg.setRange {w : World} {g : Nat} {st blk : List Int} {held total : Int} (h : Dg w g st blk held total) (vs : List Int) (o : Nat) (hl : o + vs.length ≤ 64) : Dg (w.setCells g (8 + o) (IV .u8 vs)) g st (blk.take o ++ vs ++ blk.drop (o + vs.length)) held total := by
  rw [← putAt_is vs o blk (by rw [h.2.2]; exact hl)]
  exact Dg.setPut vs o blk w h hl
theorem only_setCells {a : World} {g : Nat} : ∀ (vs : List Value) (o : Nat) (w : World), a.grownBy w (some g) → a.grownBy (w.setCells g o vs) (some g)
  | [], _, _, h => h
  | v :: r, o, w, h => only_setCells r (o + 1) _ (only_setCell h (.inl rfl) v)

theorem run_clear_any (w : World) (ty : TypeId) (b o n c : Nat) (hc : ∀ j, j < n → (w.cell? ⟨b, o + j, none⟩).isSome = true) (hf : ∀ j, j < n → w.frozen? ⟨b, o + j, none⟩ = false) :
    (Builtin.clear_ #[22] ty #[.slice (some ⟨b, o, none⟩) n c]).run Tryd.prog w = .ok (.tuple #[]) (w.setCells b o (IV .u8 (List.replicate n 0))) := by
  rcases Nat.eq_zero_or_pos n with rfl | hn
  · rfl
  · have := Lib.run_clear_slice (P := Tryd.prog) w 22 5 ty (.int .u8 0) rfl (fun w => by rfl) rfl rfl b o n c hn hc hf
    rw [this]
    simp [IV]

theorem wpList_clear {w : World} {ops : Array Oper} {rest : List Oper} {o : Oper} {a : Act} {Q : Exit → Act → World → Prop} (hgd : o.guard = none) (x : Operand)
    (ho : o.op = .call { callee := .builtin .clear, args := #[x], argTypes := #[22] }) (b off n c : Nat) (hx : a.eval x = .slice (some ⟨b, off, none⟩) n c)
    (hc : ∀ j, j < n → (w.cell? ⟨b, off + j, none⟩).isSome = true) (hf : ∀ j, j < n → w.frozen? ⟨b, off + j, none⟩ = false)
    (h : wpList Tryd.prog ops Q rest (a.put o.dst (.tuple #[])) (w.setCells b off (IV .u8 (List.replicate n 0)))) : wpList Tryd.prog ops Q (o :: rest) a w := by
  refine wpList_plain hgd fun K hK => ?_
  have hrun := run_clear_any w o.type b off n c hc hf
  unfold Oper.wp
  simp [execOp, ho, resolve, invoke, builtin, hx, hrun, Result.andThen]
  exact hK _ _ h

set_option maxRecDepth 100000 in
set_option maxHeartbeats 400000 in
theorem fill_any (g : Nat) (st blk : List Int) (total : Int) (w : World) (h e : Nat) (hd : Dg w g st blk h total) (hlt : h < 64) (he : h ≤ e) (he' : e ≤ 64) :
    Calls Tryd.prog 34 #[.pointer (some ⟨g, 0, none⟩), .int .i64 e] w fun r w' => r = .returned (.tuple #[]) ∧ Dg w' g st (blk.take h ++ List.replicate (e - h) 0 ++ blk.drop e) h total ∧ w.grownBy w' (some g) := by
  have hg := hd.1.lt
  have c72 := hd.atHeld
  have HD := Lib.hid hd
  have i1 : (0 : Int) ≤ h := by omega
  have i2 : (h : Int) ≤ e := by omega
  have i3 : (e : Int) ≤ 64 := by omega
  have ne1 : ¬ (64 = h) := by omega
  clear hd
  go_enter Tryd.func34, Tryd.ntmps34
  go_wp2_with fail
  go_still_tail 9, (by kernel_rfl)
  obtain ⟨w2, hw2⟩ : ∃ w2, w2 = w.drew := ⟨_, rfl⟩
  have d2 : Dg w2 g st blk h total := by rw [hw2]; exact HD.out
  have o2 : w.grownBy w2 (some g) := by rw [hw2]; exact only_drewN (World.grownBy.refl w _) 1
  change wpList _ _ _ _ _ w.drew
  rw [← hw2]
  refine wpList_clear rfl (.tmp 12) rfl g (8 + h) (e - h) (64 - h) ?_ ?_ ?_ ?_
  · simp [Act.eval]
  · intro j hj
    obtain ⟨x, hx⟩ : ∃ x, blk[h + j]? = some x := ⟨_, List.getElem?_eq_getElem (by rw [d2.2.2]; omega)⟩
    have := d2.atBlk hx
    rw [Nat.add_assoc, this]
    rfl
  · intro j hj
    exact d2.1.frozen _
  have d3 := d2.setRange (List.replicate (e - h) 0) h (by rw [List.length_replicate]; omega)
  rw [List.length_replicate, show h + (e - h) = e by omega] at d3
  have o3 := only_setCells (IV .u8 (List.replicate (e - h) 0)) (8 + h) w2 o2
  exact wpList_nil (bodyPost_end (v := .tuple #[]) (results_none (by rfl) _ _ _) (by rfl) ⟨rfl, d3, o3⟩)
end Go.Proofs.YtfpgnaeiiponmaaDoor
