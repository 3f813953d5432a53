import Derived.Test.YtfpgnaeiiponmaaDoorShaB
namespace Go.Proofs.YtfpgnaeiiponmaaDoor
open Go.RowKit
set_option linter.unusedVariables false

theorem only_drewN {a w : World} {row : Option Nat} (h : a.grownBy w row) (n : Nat) : a.grownBy (w.drewN n) row := ⟨h.os, h.tape, h.output, h.size, h.block⟩
theorem only_setCell {a w : World} {g : Nat} (h : a.grownBy w (some g)) {p : Addr} (hp : p.block = g ∨ a.heap.size ≤ p.block) (u : Value) : a.grownBy (w.setCell p u) (some g) :=
  ⟨h.os, h.tape, h.output, by simpa [World.setCell] using h.size, fun i hi hne => (Below.heap_setCell w p u i (by
    rintro rfl
    rcases hp with hp | hp
    · exact hne (by rw [hp])
    · omega)).trans (h.block i hi hne)⟩
theorem only_of_below {a w : World} (h : Below a.heap.size a w) (row : Option Nat) : a.grownBy w row := ⟨h.os, h.tape, h.output, h.size, fun i hi _ => h.block i hi⟩
theorem only_trans {a b c : World} {row : Option Nat} (h : a.grownBy b row) (k : b.grownBy c row) : a.grownBy c row :=
  ⟨k.os.trans h.os, k.tape.trans h.tape, k.output.trans h.output, Nat.le_trans h.size k.size, fun i hi hne => (k.block i (Nat.lt_of_lt_of_le hi h.size) hne).trans (h.block i hi hne)⟩
theorem Dg.setSt {w : World} {g : Nat} {st blk : List Int} {held total : Int} (h : Dg w g st blk held total) (i : Nat) (x : Int) (hi : i < 8) : Dg (w.setCell ⟨g, i, none⟩ (.int .u32 x)) g (st.set i x) blk held total := by
  refine ⟨?_, by rw [List.length_set]; exact h.2.1, h.2.2⟩
  have := h.1.set_ i (.int .u32 x)
  have e : (IV .u32 st ++ IV .u8 blk ++ [Value.int .i64 held, Value.int .u64 total]).toArray.setIfInBounds i (.int .u32 x) = (IV .u32 (st.set i x) ++ IV .u8 blk ++ [Value.int .i64 held, Value.int .u64 total]).toArray := by
    rw [List.setIfInBounds_toArray, List.append_assoc, List.append_assoc, List.set_append_left _ _ (by rw [IV_length, h.2.1]; exact hi)]
    simp [IV, List.map_set]
  rw [e] at this
  exact this
theorem Dg.setHeld {w : World} {g : Nat} {st blk : List Int} {held total : Int} (h : Dg w g st blk held total) (x : Int) : Dg (w.setCell ⟨g, 72, none⟩ (.int .i64 x)) g st blk x total := by
  refine ⟨?_, h.2.1, h.2.2⟩
  have := h.1.set_ 72 (.int .i64 x)
  have e : (IV .u32 st ++ IV .u8 blk ++ [Value.int .i64 held, Value.int .u64 total]).toArray.setIfInBounds 72 (.int .i64 x) = (IV .u32 st ++ IV .u8 blk ++ [Value.int .i64 x, Value.int .u64 total]).toArray := by
    rw [List.setIfInBounds_toArray, List.set_append_right _ _ (by rw [List.length_append, IV_length, IV_length, h.2.1, h.2.2]; omega), List.length_append, IV_length, IV_length, h.2.1, h.2.2]
    rfl
  rw [e] at this
  exact this
theorem Dg.setTotal {w : World} {g : Nat} {st blk : List Int} {held total : Int} (h : Dg w g st blk held total) (x : Int) : Dg (w.setCell ⟨g, 73, none⟩ (.int .u64 x)) g st blk held x := by
  refine ⟨?_, h.2.1, h.2.2⟩
  have := h.1.set_ 73 (.int .u64 x)
  have e : (IV .u32 st ++ IV .u8 blk ++ [Value.int .i64 held, Value.int .u64 total]).toArray.setIfInBounds 73 (.int .u64 x) = (IV .u32 st ++ IV .u8 blk ++ [Value.int .i64 held, Value.int .u64 x]).toArray := by
    rw [List.setIfInBounds_toArray, List.set_append_right _ _ (by rw [List.length_append, IV_length, IV_length, h.2.1, h.2.2]; omega), List.length_append, IV_length, IV_length, h.2.1, h.2.2]
    rfl
  rw [e] at this
  exact this
attribute [local irreducible] rnd sch compr
theorem compress_u (s0 : St) (ws : List Int) (w : World) (hws : ws.length = 64) (hok : s0.ok) (hwk : ∀ x ∈ ws, W32 x) (hK : KTab w) :
    Calls Tryd.prog 36 #[.agg #[.int .u32 s0.a, .int .u32 s0.b, .int .u32 s0.c, .int .u32 s0.d, .int .u32 s0.e, .int .u32 s0.f, .int .u32 s0.g, .int .u32 s0.h], .agg (IV .u32 ws).toArray] w fun e w' => ∃ s : St, s = compr s0 ws ∧
      e = .returned (.agg #[.int .u32 s.a, .int .u32 s.b, .int .u32 s.c, .int .u32 s.d, .int .u32 s.e, .int .u32 s.f, .int .u32 s.g, .int .u32 s.h]) ∧ Below w.heap.size w w' := by
  refine (compress_any s0 ws w hws hok hwk hK).mono ?_
  rintro e w' ⟨rfl, hb⟩
  exact ⟨_, rfl, rfl, hb⟩

set_option maxRecDepth 100000 in
set_option maxHeartbeats 400000 in
theorem mix_any (g : Nat) (s0 : St) (blk : List Int) (held total : Int) (w : World) (hd : Dg w g s0.list blk held total) (hb : Bytes blk) (hok : s0.ok) (hK : KTab w) (hg1 : 1 ≠ g) :
    Calls Tryd.prog 33 #[.pointer (some ⟨g, 0, none⟩)] w fun e w' => e = .returned (.tuple #[]) ∧ Dg w' g (compr s0 (sch blk 64)).list blk 0 total ∧ w.grownBy w' (some g) := by
  have hg := hd.1.lt
  have d1 : Dg w.drew g s0.list blk held total := hd
  have k1 : KTab w.drew := hK
  obtain ⟨L, hL⟩ : ∃ L, L = sch blk 64 := ⟨_, rfl⟩
  have hLl : L.length = 64 := by rw [hL]; exact sch_length _ _
  have hLk : ∀ x ∈ L, W32 x := by rw [hL]; exact sch_ok hb 64
  have C1 := Lib.hid fun W (h : Dg W g s0.list blk held total) => (schedule_any g s0.list blk held total W h hb)
  rw [← hL] at C1 ⊢
  have C2 := Lib.hid fun W (h : KTab W) => compress_u s0 L W hLl hok hLk h
  have c0 := hd.atSt (i := 0) (x := s0.a) rfl
  have c1 := hd.atSt (i := 1) (x := s0.b) rfl
  have c2 := hd.atSt (i := 2) (x := s0.c) rfl
  have c3 := hd.atSt (i := 3) (x := s0.d) rfl
  have c4 := hd.atSt (i := 4) (x := s0.e) rfl
  have c5 := hd.atSt (i := 5) (x := s0.f) rfl
  have c6 := hd.atSt (i := 6) (x := s0.g) rfl
  have c7 := hd.atSt (i := 7) (x := s0.h) rfl
  have hg1w : g < w.drew.heap.size := hg
  have HD1 := Lib.hid d1
  have HK1 := Lib.hid k1
  clear hd hK hL hLl hLk hb hok d1 k1
  go_enter Tryd.func33, Tryd.ntmps33
  go_wp2_with fail
  go_region_with (first
    | (go_at_call 37; refine (C1.out _ HD1.out).mono ?_; rintro e w1 ⟨rfl, hb1⟩; have e1 := HD1.out.below hb1 hg; have k1 := HK1.out.below hb1; have c10 := e1.atSt (i := 0) (x := s0.a) rfl; have c11 := e1.atSt (i := 1) (x := s0.b) rfl; have c12 := e1.atSt (i := 2) (x := s0.c) rfl; have c13 := e1.atSt (i := 3) (x := s0.d) rfl; have c14 := e1.atSt (i := 4) (x := s0.e) rfl; have c15 := e1.atSt (i := 5) (x := s0.f) rfl; have c16 := e1.atSt (i := 6) (x := s0.g) rfl; have c17 := e1.atSt (i := 7) (x := s0.h) rfl)
    | (go_at_call 36; refine (C2.out _ k1).mono ?_; rintro e w2 ⟨s, hs, rfl, hb2⟩; have HSS := Lib.hid hs; clear hs; have e2 := e1.below hb2 e1.1.lt; have f0 := e2.1.frozen 0; have f1 := e2.1.frozen 1; have f2 := e2.1.frozen 2; have f3 := e2.1.frozen 3; have f4 := e2.1.frozen 4; have f5 := e2.1.frozen 5; have f6 := e2.1.frozen 6; have f7 := e2.1.frozen 7; have c20 := e2.atSt (i := 0) (x := s0.a) rfl; have c21 := e2.atSt (i := 1) (x := s0.b) rfl; have c22 := e2.atSt (i := 2) (x := s0.c) rfl; have c23 := e2.atSt (i := 3) (x := s0.d) rfl; have c24 := e2.atSt (i := 4) (x := s0.e) rfl; have c25 := e2.atSt (i := 5) (x := s0.f) rfl; have c26 := e2.atSt (i := 6) (x := s0.g) rfl; have c27 := e2.atSt (i := 7) (x := s0.h) rfl))
  all_goals (
    rename_i Q' K hK
    have e3 : Dg ((((((((w2.setCell ⟨g, 0, none⟩ (.int .u32 s.a)).setCell ⟨g, 1, none⟩ (.int .u32 s.b)).setCell ⟨g, 2, none⟩ (.int .u32 s.c)).setCell ⟨g, 3, none⟩ (.int .u32 s.d)).setCell ⟨g, 4, none⟩ (.int .u32 s.e)).setCell ⟨g, 5, none⟩ (.int .u32 s.f)).setCell ⟨g, 6, none⟩ (.int .u32 s.g)).setCell ⟨g, 7, none⟩ (.int .u32 s.h)) g s.list blk held total :=
      (((((((e2.setSt 0 s.a (by decide)).setSt 1 s.b (by decide)).setSt 2 s.c (by decide)).setSt 3 s.d (by decide)).setSt 4 s.e (by decide)).setSt 5 s.f (by decide)).setSt 6 s.g (by decide)).setSt 7 s.h (by decide)
    have o3 : w.grownBy ((((((((w2.setCell ⟨g, 0, none⟩ (.int .u32 s.a)).setCell ⟨g, 1, none⟩ (.int .u32 s.b)).setCell ⟨g, 2, none⟩ (.int .u32 s.c)).setCell ⟨g, 3, none⟩ (.int .u32 s.d)).setCell ⟨g, 4, none⟩ (.int .u32 s.e)).setCell ⟨g, 5, none⟩ (.int .u32 s.f)).setCell ⟨g, 6, none⟩ (.int .u32 s.g)).setCell ⟨g, 7, none⟩ (.int .u32 s.h)) (some g) := by
      have o0 : w.grownBy w2 (some g) := only_trans (only_drewN (World.grownBy.refl w _) 1) (only_trans (only_of_below (a := w.drew) hb1 _) (only_of_below hb2 _))
      exact only_setCell (only_setCell (only_setCell (only_setCell (only_setCell (only_setCell (only_setCell (only_setCell o0 (.inl rfl) _) (.inl rfl) _) (.inl rfl) _) (.inl rfl) _) (.inl rfl) _) (.inl rfl) _) (.inl rfl) _) (.inl rfl) _
    refine hK _ _ ?_
    generalize ((((((((w2.setCell ⟨g, 0, none⟩ (.int .u32 s.a)).setCell ⟨g, 1, none⟩ (.int .u32 s.b)).setCell ⟨g, 2, none⟩ (.int .u32 s.c)).setCell ⟨g, 3, none⟩ (.int .u32 s.d)).setCell ⟨g, 4, none⟩ (.int .u32 s.e)).setCell ⟨g, 5, none⟩ (.int .u32 s.f)).setCell ⟨g, 6, none⟩ (.int .u32 s.g)).setCell ⟨g, 7, none⟩ (.int .u32 s.h)) = w3 at e3 o3 ⊢
    have c3 := e3.atHeld
    have f3 := e3.1.frozen 72
    clear hK e2 e1 hb1 hb2 f0 f1 f2 f4 f5 f6 f7 c20 c21 c22 c23 c24 c25 c26 c27 c10 c11 c12 c13 c14 c15 c16 c17
    go_wp2_with fail)
  all_goals (
    have o4 := only_setCell o3 (p := ⟨g, 72, none⟩) (.inl rfl) (.int .i64 0)
    have e4 := e3.setHeld 0
    have HS := HSS.out
    rw [← HS]
    exact bodyPost_end (v := .tuple #[]) (results_none (by rfl) _ _ _) (by rfl) ⟨rfl, e4, o4⟩)
end Go.Proofs.YtfpgnaeiiponmaaDoor
