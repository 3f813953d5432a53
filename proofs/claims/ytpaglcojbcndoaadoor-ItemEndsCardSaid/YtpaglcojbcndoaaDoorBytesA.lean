/-
  Append onto a row of bytes of the call's own; Copy, Cut, Clone, Same.
-/
import Derived.Test.YtpaglcojbcndoaaDoorWords
namespace Go.Proofs.YtpaglcojbcndoaaDoor
open Go.RowKit
set_option linter.unusedVariables false

theorem info_u8 : (Tryd.prog.info? 5).map (fun i => (i.zero, i.size, i.bytes)) = some (some (.int .u8 0), 1, 1) := by kernel_rfl

theorem run_app (w : World) (ty : TypeId) {base c d : Nat} {A B : Option Addr} {l news : List Int} (hown : Own w base A c l) (hr : Rd w B news)
    (hlen : l.length + news.length ≤ 70368744177664) (hbase : base ≤ w.heap.size) :
    ∃ A' c' w', (Builtin.append_ #[25, 25] ty #[.slice A l.length c, .slice B news.length d]).run Tryd.prog w = .ok (.slice A' (l.length + news.length) c') w' ∧
      Own w' base A' c' (l ++ news) ∧ w.grownBy w' (Value.slice A l.length c).ownBlock := by
  obtain ⟨i0, hi0, hz0, hz1, hz2⟩ := info_parts info_u8
  obtain ⟨v', w', h1, h2, h3, h4⟩ := run_append_any (P := Tryd.prog) w base 25 ty 5 i0 _ 1 1 Tryd.underlying25 hi0 hz0 hz1 hz2 rfl (by omega) _ _ _ hown _ B _ d _ hr (U8_oneCell _)
    (by unfold maxLen; omega) (by omega) hbase
  rcases h2.2 with ⟨rfl, h0⟩ | ⟨g, cap, cur, rfl, _⟩
  · have hl : l = [] := List.eq_nil_of_length_eq_zero (by omega)
    have hm : news = [] := List.eq_nil_of_length_eq_zero (by omega)
    subst hl; subst hm
    exact ⟨none, 0, w', h1, by simpa [Own, U8] using h2, h3⟩
  · refine ⟨_, _, w', h1, ?_, h3⟩
    unfold Own
    rw [U8_append, List.length_append]
    exact h2

theorem elem_u8 : Tryd.prog.elem 25 = 5 := by kernel_rfl
theorem run_sizeOf_u8 (w : World) : (sizeOf 5).run Tryd.prog w = .ok 1 w := by
  obtain ⟨i0, hi0, hz0, hz1, hz2⟩ := info_parts info_u8
  simp [sizeOf, typeInfo, hi0, hz1]
/-- 'p[k:]' -/
theorem slice_from (A : Option Addr) (c : Nat) (l : List Int) (k : Nat) (kd : IntKind) (hk : k ≤ l.length) (hc : l.length ≤ c) : ∃ A',
    (∀ w, (Instr.slice 25 (.slice A l.length c) (some (.int kd (k : Int))) none none).run Tryd.prog w = .ok (.slice A' (l.drop k).length (c - k)) w) ∧
    (∀ w, Rd w A l → Rd w A' (l.drop k)) ∧ (A' = none → A = none) := by
  refine ⟨if c = k then A else A.map (·.add (k * 1)), fun w => ?_, fun w h => h.cut hk hc, fun h => ?_⟩
  · rw [run_slice_l (P := Tryd.prog) w 25 A l.length c (by rw [elem_u8]; exact Tryd.underlying25) kd (k : Int) (by omega) (by omega), elem_u8]
    rw [run_sizeOf_u8]
    simp [sliced]
  · split at h
    · exact h
    · cases A with
      | none => rfl
      | some a => cases h

/-- 'p[:k]' -/
theorem slice_upto (A : Option Addr) (c : Nat) (l : List Int) (k : Nat) (kd : IntKind) (hk : k ≤ l.length) (hc : l.length ≤ c) : ∃ A',
    (∀ w, (Instr.slice 25 (.slice A l.length c) none (some (.int kd (k : Int))) none).run Tryd.prog w = .ok (.slice A' (l.take k).length c) w) ∧
    (∀ w, Rd w A l → Rd w A' (l.take k)) ∧ (A' = none → A = none) := by
  refine ⟨A, fun w => ?_, fun w h => h.upto hk, id⟩
  rw [run_slice_h (P := Tryd.prog) w 25 A l.length c (by rw [elem_u8]; exact Tryd.underlying25) kd (k : Int) (by omega) (by omega), elem_u8, run_sizeOf_u8]
  cases A <;> simp [sliced, Nat.min_eq_left hk, Addr.add]
/-- 'p[j:k]' -/
theorem slice_both (A : Option Addr) (c : Nat) (l : List Int) (j k : Nat) (kd kd' : IntKind) (hj : j ≤ k) (hk : k ≤ l.length) (hc : l.length ≤ c) : ∃ A',
    (∀ w, (Instr.slice 25 (.slice A l.length c) (some (.int kd (j : Int))) (some (.int kd' (k : Int))) none).run Tryd.prog w = .ok (.slice A' ((l.take k).drop j).length (c - j)) w) ∧
    (∀ w, Rd w A l → Rd w A' ((l.take k).drop j)) ∧ (A' = none → A = none) := by
  have hlen : (l.take k).length = k := by simp [hk]
  refine ⟨if c = j then A else A.map (·.add (j * 1)), fun w => ?_, fun w h => (h.upto hk).cut (by omega) (by omega), fun h => ?_⟩
  · rw [run_slice_lh (P := Tryd.prog) w 25 A l.length c (by rw [elem_u8]; exact Tryd.underlying25) kd kd' (j : Int) (k : Int) (by omega) (by omega) (by omega), elem_u8, run_sizeOf_u8]
    simp [sliced, Nat.min_eq_left hk]
  · split at h
    · exact h
    · cases A with
      | none => rfl
      | some a => cases h

theorem wpList_app {ops : Array Oper} {rest : List Oper} {o : Oper} {a : Act} {w : World} {Q : Exit → Act → World → Prop} (hgd : o.guard = none) (s x : Operand)
    (ho : o.op = .call { callee := .builtin .append, args := #[s, x], argTypes := #[25, 25] })
    (base : Nat) {c d : Nat} {A B : Option Addr} {l news : List Int} (hs : a.eval s = .slice A l.length c) (hx : a.eval x = .slice B news.length d) (hown : Own w base A c l) (hr : Rd w B news)
    (hlen : l.length + news.length ≤ 70368744177664) (hbase : base ≤ w.heap.size)
    (h : ∀ A' c' w', Own w' base A' c' (l ++ news) → w.grownBy w' (Value.slice A l.length c).ownBlock → Below base w w' →
      wpList Tryd.prog ops Q rest (a.put o.dst (.slice A' (l.length + news.length) c')) w') : wpList Tryd.prog ops Q (o :: rest) a w :=
  wpList_plain hgd fun K hK => by
    obtain ⟨A', c', w', hrun, h2, h3⟩ := run_app w o.type (d := d) hown hr hlen hbase
    unfold Oper.wp execOp
    simp only [ho, resolve, invoke, builtin, Sem.run_bind, Sem.run_pure, Result.andThen_ok, List.map_toArray, List.map_cons, List.map_nil, hs, hx, hrun]
    exact hK _ _ (h A' c' w' h2 h3 ((Below.refl _ _).grown h3 hbase hown.row_ge))


/-- An empty slice literal is a row of the call's own. -/
theorem own_lit0 (w : World) {base : Nat} (hb : base ≤ w.heap.size) : Own (w.alloc (.cells #[] 5)) base (some ⟨w.heap.size, 0, none⟩) 0 [] :=
  Own.new (Blk.new w _ _) hb (by simp [maxLen])

set_option maxHeartbeats 400000 in
theorem copy_any (A : Option Addr) (c : Nat) (l : List Int) (w : World) (hr : Rd w A l) (hl : l.length ≤ 70368744177664) :
    Calls Tryd.prog 11 #[.slice A l.length c] w fun e w' => ∃ A' c', e = .returned (.slice A' l.length c') ∧ Own w' w.heap.size A' c' l ∧ Below w.heap.size w w' := by
  go_enter Tryd.func11, Tryd.ntmps11
  go_wp2_with (at_builtin; go_must (refine wpList_app rfl (.tmp 3) (.tmp 4) rfl w.heap.size (l := []) (news := l) rfl rfl (own_lit0 w (Nat.le_refl _)) (hr.alloc _) (by simpa using hl) (by simp) ?_); intro A' c' w' hown hg hb)
  go_ret
  exact ⟨A', c', by simp, by simpa using hown, ((Below.refl _ _).alloc (Nat.le_refl _) _).trans hb⟩

set_option maxHeartbeats 400000 in
theorem cut_any (A : Option Addr) (c : Nat) (l : List Int) (k : Int) (w : World) (hr : Rd w A l) (hl : l.length ≤ 9223372036854775807) (hc : l.length ≤ c) (hk : 0 ≤ k) (hk1 : k ≤ 70368744177664) :
    Calls Tryd.prog 10 #[.slice A l.length c, .int .i64 k] w fun e w' =>
      ∃ A' c', e = .returned (.slice A' (l.take k.toNat).length c') ∧ Own w' w.heap.size A' c' (l.take k.toNat) ∧ Below w.heap.size w w' := by
  by_cases hkl : k < l.length
  · obtain ⟨n, rfl⟩ := Int.eq_ofNat_of_zero_le hk
    have hn : n ≤ l.length := by omega
    have ht : (l.take n).length = n := by simp [hn]
    have HT := Lib.hid ht
    clear ht
    go_enter Tryd.func10, Tryd.ntmps10
    go_wp2_with (at_builtin; go_must (refine wpList_app rfl (.tmp 5) (.tmp 11) rfl w.heap.size (l := []) (news := l.take n) (d := c) rfl (by rw [HT.out]; rfl) (own_lit0 w (Nat.le_refl _)) ((hr.upto hn).alloc _) (by rw [HT.out]; simp; omega) (by simp) ?_); intro A' c' w' hown hg hb)
    go_ret
    refine ⟨A', c', ?_, by simpa using hown, ((Below.refl _ _).alloc (Nat.le_refl _) _).trans hb⟩
    simp [HT.out]
  · have ht : l.take k.toNat = l := List.take_of_length_le (by omega)
    rw [ht]
    go_enter Tryd.func10, Tryd.ntmps10
    go_wp2_with (at_builtin; go_must (refine wpList_app rfl (.tmp 5) (.tmp 11) rfl w.heap.size (l := []) (news := l) (d := c) rfl rfl (own_lit0 w (Nat.le_refl _)) (hr.alloc _) (by simp; omega) (by simp) ?_); intro A' c' w' hown hg hb)
    go_ret
    exact ⟨A', c', by simp, by simpa using hown, ((Below.refl _ _).alloc (Nat.le_refl _) _).trans hb⟩

set_option maxHeartbeats 400000 in
theorem clone_any (A : Option Addr) (c : Nat) (l : List Int) (w : World) (hr : Rd w A l) (hl : l.length ≤ 70368744177664) (hA : A = none → l = [] ∧ c = 0) :
    Calls Tryd.prog 32 #[.slice A l.length c] w fun e w' => ∃ A' c', e = .returned (.slice A' l.length c') ∧ Own w' w.heap.size A' c' l ∧ Below w.heap.size w w' := by
  have qT := fun (w : World) (a : Option Addr) (n c : Nat) => Lib.run_eql_slice_nil (P := Tryd.prog) w _ _ a n c 0 0 Tryd.underlying25
  cases A with
  | none =>
    obtain ⟨rfl, rfl⟩ := hA rfl
    go_enter Tryd.func32, Tryd.ntmps32
    go_wp2
    go_ret
    exact ⟨none, 0, rfl, Own.nil _ _, Below.refl _ _⟩
  | some a =>
    clear hA
    go_enter Tryd.func32, Tryd.ntmps32
    go_wp2_with (at_builtin; go_must (refine wpList_app rfl (.tmp 5) (.tmp 6) rfl w.heap.size (l := []) (news := l) (d := c) rfl rfl (own_lit0 w (Nat.le_refl _)) (hr.alloc _) (by simpa using hl) (by simp) ?_); intro A' c' w' hown hg hb)
    go_ret
    exact ⟨A', c', by simp, by simpa using hown, ((Below.refl _ _).alloc (Nat.le_refl _) _).trans hb⟩

/-- Bytes as a string: the same just if they are. -/
theorem strOfNums_inj {a b : List Int} (ha : Bytes a) (hb : Bytes b) (h : strOfNums a = strOfNums b) : a = b := by
  have h1 : a.map (fun n : Int => UInt8.ofNat n.toNat) = b.map (fun n : Int => UInt8.ofNat n.toNat) := by rw [← strOfNums_data, ← strOfNums_data, h]
  have key : ∀ l : List Int, Bytes l → (l.map (fun n : Int => UInt8.ofNat n.toNat)).map (fun u : UInt8 => (u.toNat : Int)) = l := by
    intro l hl
    rw [List.map_map]
    conv => rhs; rw [← List.map_id l]
    refine List.map_congr_left fun x hx => ?_
    have := hl x hx
    simp only [Function.comp, id, UInt8.toNat_ofNat']
    omega
  rw [← key a ha, ← key b hb, h1]

def sameB (a b : List Int) : Bool := decide (a = b)

theorem run_str (w : World) (A : Option Addr) (c : Nat) {l : List Int} (h : Rd w A l) :
    (convert 25 9 (.slice A l.length c)).run Tryd.prog w = .ok (.string (strOfNums l)) w := by
  rcases Nat.eq_zero_or_pos l.length with h0 | h0
  · have : l = [] := List.eq_nil_of_length_eq_zero h0
    subst this
    cases A with
    | none => exact run_convert_bytes_nil w _ _ Tryd.underlying25 Tryd.underlying5 _ _ _ Tryd.underlying9
    | some a =>
      rw [run_convert_bytes_string w _ _ _ _ _ _ Tryd.underlying25 Tryd.underlying5 Tryd.underlying9]
      exact run_bytesToString w a 0 c [] (run_loadCells_list w a [] (fun j v hj => by simp at hj))
  · obtain ⟨b, off, rfl, _⟩ := h.some_ h0
    exact run_convert_bytes_arg w _ _ Tryd.underlying25 Tryd.underlying5 b off _ c l rfl (fun i hi => by
      rw [h.cell (List.getElem?_eq_getElem hi)]
      simp [List.getD, List.getElem?_eq_getElem hi]) _ Tryd.underlying9

theorem str_beq {a b : List Int} (h1 : Bytes a) (h2 : Bytes b) : ((strOfNums a).toList == (strOfNums b).toList) = sameB a b := by
  rw [ByteArray.toList_eq, ByteArray.toList_eq]
  unfold sameB
  by_cases h : a = b
  · subst h; simp
  · have : (strOfNums a).data.toList ≠ (strOfNums b).data.toList := fun e => h (strOfNums_inj h1 h2 (by
      have : (strOfNums a).data = (strOfNums b).data := Array.toList_inj.1 e
      cases ha : strOfNums a; cases hb : strOfNums b; simp_all))
    rw [beq_eq_false_iff_ne.2 this]; simp [h]

set_option maxHeartbeats 400000 in
theorem same_any (A B : Option Addr) (c d : Nat) (a b : List Int) (w : World) (ha : Rd w A a) (hb : Rd w B b) (h1 : Bytes a) (h2 : Bytes b) :
    Calls Tryd.prog 15 #[.slice A a.length c, .slice B b.length d] w fun e w' => e = .returned (.bool (sameB a b)) ∧ w = w' := by
  have e1 := run_str w A c ha
  have e2 := run_str w B d hb
  go_enter Tryd.func15, Tryd.ntmps15
  go_wp2_with fail
  go_ret
  refine ⟨?_, rfl⟩
  rw [← str_beq h1 h2]
  rfl
end Go.Proofs.YtpaglcojbcndoaaDoor
