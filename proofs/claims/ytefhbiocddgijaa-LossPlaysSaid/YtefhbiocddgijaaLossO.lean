/-
  Open; lists without repetition.
-/
import Derived.Test.YtefhbiocddgijaaLossJ
namespace Go.Proofs.Ytefhbiocddgijaa
open Go.RowKit
set_option linter.unusedVariables false
set_option linter.unusedSimpArgs false

theorem ownP_0 (w : World) {base : Nat} (hb : base ≤ w.heap.size) : OwnV (w.alloc (.cells #[] 49)) base 49 4 (some ⟨w.heap.size, 0, none⟩) 0 0 [] :=
  ⟨by simp, .inr ⟨w.heap.size, 0, #[], rfl, hb, Blk.new w _ _, Nat.le_refl _, by simp, by simp, by simp⟩⟩
set_option maxHeartbeats 400000 in
theorem cloneP_any (A : Option Addr) (c : Nat) (l : List PK) (w : World) (hr : RdP w A l) (hl : l.length ≤ 1000000) (hA : A = none → l = [] ∧ c = 0) :
    Calls Try.prog 34 #[.slice A l.length c] w fun e w' => ∃ A' c', e = .returned (.slice A' l.length c') ∧ OwnP w' w.heap.size A' c' l ∧ Below w.heap.size w w' := by
  have qT := fun (w : World) (a : Option Addr) (n c : Nat) => Lib.run_eql_slice_nil (P := Try.prog) w _ _ a n c 0 0 Try.underlying36
  cases A with
  | none =>
    obtain ⟨rfl, rfl⟩ := hA rfl
    go_enter Try.func34, Try.ntmps34
    go_wp2
    go_ret
    exact ⟨none, 0, rfl, OwnF.nil _ _, Below.refl _ _⟩
  | some a =>
    clear hA
    go_enter Try.func34, Try.ntmps34
    go_wp2_with (at_builtin; go_must (refine wpList_appV rfl (.tmp 5) (.tmp 6) 36 49 4 32 (.agg #[.int .u64 0, .int .u64 0, .int .i64 0, .bool false]) rfl Try.underlying36 info_pk rfl (by omega) w.heap.size (n := 0) (m := l.length) (xs := []) (news := FlV PkC l) (d := c) rfl rfl (ownP_0 w (Nat.le_refl _)) (RdF.alloc hr _) (FlV_oneCell PkC PkC_one l) (by unfold maxLen; omega) (by omega) (by simp) ?_); intro A' c' w' hown hg hb)
    go_ret
    refine ⟨A', c', by simp, ?_, ((Below.refl _ _).alloc (Nat.le_refl _) _).trans hb⟩
    have := hown
    rw [Nat.zero_add, List.nil_append] at this
    exact this
theorem LOpen_nil (w : World) : Calls Try.prog 18 #[.pointer none] w fun r w' => r = .returned (.slice none 0 0) ∧ w = w' := by
  go_enter Try.func18, Try.ntmps18
  go_wp2_with fail
  go_ret
  exact ⟨rfl, rfl⟩
theorem LOpen_any (base g : Nat) (A : Option Addr) (c : Nat) (l : LG) (w : World) (h : Led w base g A c l) (hl : l.op.length ≤ 1000000) :
    Calls Try.prog 18 #[.pointer (some ⟨g, 0, none⟩)] w fun r w' => ∃ A' c', r = .returned (.slice A' l.op.length c') ∧ OwnP w' w.heap.size A' c' l.op ∧ Below w.heap.size w w' := by
  have hA : A = none → l.op = [] ∧ c = 0 := by
    intro hA
    rcases h.own.2 with ⟨h1, h2⟩ | ⟨g', cap, cur, hv, _⟩
    · injection h1 with _ _ e3
      exact ⟨List.eq_nil_of_length_eq_zero h2, e3⟩
    · injection hv with e1; rw [hA] at e1; cases e1
  have HC := Lib.hid (cloneP_any A c l.op w (OwnF.reads h.own) hl hA)
  have c0 := h.blk.cell 0
  simp at c0
  clear h hA
  go_enter Try.func18, Try.ntmps18
  go_wp2_with fail
  refine HC.out.mono ?_
  rintro e w' ⟨A', c', rfl, h1, h2⟩
  have H1 := Lib.hid h1
  have H2 := Lib.hid h2
  clear h1 h2
  go_wp2_with fail
  go_ret
  exact ⟨A', c', rfl, H1.out, H2.out⟩

theorem nodup_le {l m : List Int} (h : l.Nodup) (hs : ∀ x ∈ l, x ∈ m) : l.length ≤ m.length := by
  induction l generalizing m with
  | nil => simp
  | cons x l ih =>
    rw [List.nodup_cons] at h
    have hx : x ∈ m := hs x (by simp)
    have := ih h.2 (m := m.erase x) (fun y hy => by
      have hne : y ≠ x := fun e => h.1 (e ▸ hy)
      exact (List.mem_erase_of_ne hne).2 (hs y (by simp [hy])))
    rw [List.length_erase_of_mem hx] at this
    have hm : 0 < m.length := List.length_pos_of_mem hx
    simp
    omega
theorem nodup_eq {l m : List Int} (h : l.Nodup) (h' : m.Nodup) (hs : ∀ x, x ∈ l ↔ x ∈ m) : l.length = m.length :=
  Nat.le_antisymm (nodup_le h fun x hx => (hs x).1 hx) (nodup_le h' fun x hx => (hs x).2 hx)
theorem pairwise_nodup {l : List PK} (h : l.Pairwise (fun a b => a.nu < b.nu)) : (l.map (·.nu)).Nodup := by
  rw [List.Nodup, List.pairwise_map]
  exact h.imp fun {a b} hab => by omega
theorem nodup_add {T : List Int} {x : Int} (h : T.Nodup) : (T ++ if x ∈ T then [] else [x]).Nodup := by
  by_cases hx : x ∈ T
  · rw [if_pos hx, List.append_nil]; exact h
  · rw [if_neg hx, List.nodup_append]
    refine ⟨h, by simp, fun a ha b hb => ?_⟩
    simp at hb
    subst hb
    exact fun e => hx (e ▸ ha)
end Go.Proofs.Ytefhbiocddgijaa
