import Derived.Test.YtpaglcojbcndoaaDoorVintF
namespace Go.Proofs.YtpaglcojbcndoaaDoor
open Go.RowKit
set_option linter.unusedVariables false

/-- A literal of one byte is a row of the call's own. -/
theorem own_lit1 (w : World) (x : Int) {base : Nat} (hb : base ≤ w.heap.size) : Own (w.alloc (.cells #[.int .u8 x] 5)) base (some ⟨w.heap.size, 0, none⟩) 1 [x] :=
  Own.new (l := [x]) (Blk.new w _ _) hb (by simp [maxLen])
theorem Own.blk {w : World} {base c : Nat} {A : Option Addr} {x : Int} {l : List Int} (h : Own w base A c (x :: l)) : ∃ g cur, A = some ⟨g, 0, none⟩ ∧ base ≤ g ∧ Blk w g 5 cur ∧ cur[0]? = some (.int .u8 x) := by
  rcases h.2 with ⟨_, h2⟩ | ⟨g, cap, cur, hv, hg, hh, h3, h4, h5, h6⟩
  · simp at h2
  · refine ⟨g, cur, by injection hv, hg, hh, ?_⟩
    have := congrArg (fun l => l[0]?) h6
    simp only [List.getElem?_take, U8, List.map_cons, List.getElem?_cons_zero, List.length_cons] at this
    rw [if_pos (by omega)] at this
    simpa using this
/-- A store into the call's own row. -/
theorem Own.store {w : World} {base c g : Nat} {l : List Int} (h : Own w base (some ⟨g, 0, none⟩) c l) (i : Nat) (x : Int) (hi : i < l.length) : Own (w.setCell ⟨g, i, none⟩ (.int .u8 x)) base (some ⟨g, 0, none⟩) c (l.set i x) := by
  obtain ⟨h1, h2⟩ := h
  unfold Own
  refine ⟨by simp [U8], ?_⟩
  rcases h2 with ⟨h2, _⟩ | ⟨g', cap, cur, hv, hg, hh, h3, h4, h5, h6⟩
  · cases h2
  · injection hv with e1 e2 e3
    injection e1 with e1
    injection e1 with e1
    subst e1; subst e3
    refine .inr ⟨g, c, cur.setIfInBounds i (.int .u8 x), by simp, hg, (Blk.set_ (t := 5) hh i _), by simpa using h3, h4, by simpa using h5, ?_⟩
    rw [Array.toList_setIfInBounds, List.length_set, List.take_set, h6, U8, U8, List.map_set]

set_option maxHeartbeats 400000 in
theorem refWide_arg (n s : Int) (w : World) (h1 : s ≠ 1) (h2 : s ≠ 2) (h4 : s ≠ 4) (h8 : s ≠ 8) :
    Calls Tryd.prog 65 #[.int .u64 n, .int .i64 s] w fun e w' => e = .returned (.tuple #[.slice none 0 0, .int .i64 1]) ∧ w = w' := by
  have q1 : (s == 1) = false := beq_eq_false_iff_ne.2 h1
  have q2 : (s == 2) = false := beq_eq_false_iff_ne.2 h2
  have q3 : (s == 4) = false := beq_eq_false_iff_ne.2 h4
  have q4 : (s == 8) = false := beq_eq_false_iff_ne.2 h8
  clear h1 h2 h4 h8
  go_enter Tryd.func65, Tryd.ntmps65
  go_wp2
  go_ret2
  exact ⟨rfl, rfl⟩

theorem vsize_long {n s b t : Int} {k : Nat} (hs : IsSize s k b t) (hn : b ≤ n) : vsize n = 0 ∨ s < vsize n := by
  unfold IsSize at hs
  unfold vsize
  (repeat' split) <;> omega
theorem vsize_short {n s b t : Int} {k : Nat} (hs : IsSize s k b t) (hn : n < b) : 0 < vsize n ∧ vsize n ≤ s := by
  unfold IsSize at hs
  unfold vsize
  (repeat' split) <;> omega

set_option maxHeartbeats 800000 in
theorem refWide_long (n s : Int) (k : Nat) (b t : Int) (w : World) (hs : IsSize s k b t) (h0 : 0 ≤ n) (hn : b ≤ n) :
    Calls Tryd.prog 65 #[.int .u64 n, .int .i64 s] w fun e w' => e = .returned (.tuple #[.slice none 0 0, .int .i64 3]) ∧ w = w' := by
  have ways : (s == 1) = true ∨ (s == 1) = false ∧ (s == 2) = true ∨ (s == 1) = false ∧ (s == 2) = false ∧ (s == 4) = true ∨ (s == 1) = false ∧ (s == 2) = false ∧ (s == 4) = false ∧ (s == 8) = true := by
    rcases hs with h | h | h | h <;> obtain ⟨h, _⟩ := h <;> rw [h] <;> decide
  have hv := vsize_long hs hn
  obtain ⟨v, hv'⟩ : ∃ v, v = vsize n := ⟨_, rfl⟩
  rw [← hv'] at hv
  have HV := Lib.hid hv'
  clear hv' hs hn
  rcases hv with hv | hv
  · have hz : (v == 0) = true := by rw [hv]; rfl
    clear hv
    rcases ways with q1 | ⟨q1, q2⟩ | ⟨q1, q2, q3⟩ | ⟨q1, q2, q3, q4⟩
    all_goals
      go_enter Tryd.func65, Tryd.ntmps65
      go_wp2_with (go_at_call 64; go_must (refine (refSize_any n _ h0).mono ?_); rintro e w' ⟨rfl, rfl⟩; rw [← HV.out])
      go_ret2
      exact ⟨rfl, rfl⟩
  · by_cases hz : v = 0
    · have hz : (v == 0) = true := by rw [hz]; rfl
      rcases ways with q1 | ⟨q1, q2⟩ | ⟨q1, q2, q3⟩ | ⟨q1, q2, q3, q4⟩
      all_goals
        go_enter Tryd.func65, Tryd.ntmps65
        go_wp2_with (go_at_call 64; go_must (refine (refSize_any n _ h0).mono ?_); rintro e w' ⟨rfl, rfl⟩; rw [← HV.out])
        go_ret2
        exact ⟨rfl, rfl⟩
    · have hz : (v == 0) = false := beq_eq_false_iff_ne.2 hz
      rcases ways with q1 | ⟨q1, q2⟩ | ⟨q1, q2, q3⟩ | ⟨q1, q2, q3, q4⟩
      all_goals
        go_enter Tryd.func65, Tryd.ntmps65
        go_wp2_with (go_at_call 64; go_must (refine (refSize_any n _ h0).mono ?_); rintro e w' ⟨rfl, rfl⟩; rw [← HV.out])
        go_ret2
        exact ⟨rfl, rfl⟩

set_option maxHeartbeats 1600000 in
theorem refWide_ok (n s : Int) (k : Nat) (b t : Int) (w : World) (hs : IsSize s k b t) (h0 : 0 ≤ n) (hn : n < b) :
    Calls Tryd.prog 65 #[.int .u64 n, .int .i64 s] w fun e w' =>
      ∃ A' c', e = .returned (.tuple #[.slice A' (wenc n k).length c', .int .i64 0]) ∧ Own w' w.heap.size A' c' (wenc n k) ∧ Below w.heap.size w w' := by
  have hsk : s = k := by rcases hs with h | h | h | h <;> obtain ⟨rfl, rfl, _⟩ := h <;> rfl
  subst hsk
  have hk8 : 1 ≤ k ∧ k ≤ 8 := by unfold IsSize at hs; omega
  have hv := vsize_short hs hn
  have ht : 0 ≤ t ∧ t ≤ 3 := by unfold IsSize at hs; omega
  have ways : ((k : Int) == 1) = true ∧ t = 0 ∨ ((k : Int) == 1) = false ∧ ((k : Int) == 2) = true ∧ t = 1 ∨ ((k : Int) == 1) = false ∧ ((k : Int) == 2) = false ∧ ((k : Int) == 4) = true ∧ t = 2 ∨ ((k : Int) == 1) = false ∧ ((k : Int) == 2) = false ∧ ((k : Int) == 4) = false ∧ ((k : Int) == 8) = true ∧ t = 3 := by
    rcases hs with h | h | h | h <;> obtain ⟨h, _, _, h'⟩ := h <;> rw [h, h'] <;> decide
  obtain ⟨v, hv'⟩ : ∃ v, v = vsize n := ⟨_, rfl⟩
  rw [← hv'] at hv
  obtain ⟨hv0, hvk⟩ := hv
  have hz : (v == 0) = false := beq_eq_false_iff_ne.2 (by omega)
  have HV := Lib.hid hv'
  have HS := Lib.hid hs
  have HN := Lib.hid hn
  obtain ⟨hk1, hk8⟩ := hk8
  obtain ⟨ht0, ht3⟩ := ht
  clear hv' hs hn
  rcases ways with ⟨q1, hT⟩ | ⟨q1, q2, hT⟩ | ⟨q1, q2, q3, hT⟩ | ⟨q1, q2, q3, q4, hT⟩
  all_goals
    have HT := Lib.hid hT
    clear hT
    go_enter Tryd.func65, Tryd.ntmps65
    go_wp2_with (go_at_call 64; go_must (refine (refSize_any n _ h0).mono ?_); rintro e w' ⟨rfl, rfl⟩; rw [← HV.out])
    go_loopw [0, 7, 27] (fun x p i wr => ∃ (j : Nat) (A : Option Addr) (c : Nat), j ≤ k ∧ i = .int .i64 j ∧ x = .int .u64 (n / 256 ^ j) ∧ p = .slice A (be n j).length c ∧ Own wr w.heap.size A c (be n j) ∧ Below w.heap.size w wr) (fun _ _ i _ => k - (intOf i).toNat)
    case atStart => exact ⟨0, none, 0, by omega, rfl, by simp, rfl, Own.nil _ _, Below.refl _ _⟩
    case round =>
      obtain ⟨j, A, c, hj, rfl, rfl, rfl, hown, hbel⟩ := hrel
      by_cases hjk : j < k
      · obtain ⟨x, hx⟩ : ∃ x, x = n / 256 ^ j := ⟨_, rfl⟩
        rw [← hx]
        have hx0 : 0 ≤ x := by rw [hx]; exact Int.ediv_nonneg h0 (Int.pow_nonneg (by omega))
        have hx1 : x < 4611686018427387904 := by
          have hb' : b ≤ 4611686018427387904 := by have := HS.out; unfold IsSize at this; omega
          have := HN.out
          have : x ≤ n := by rw [hx]; exact Int.ediv_le_self _ h0
          omega
        have HX := Lib.hid hx
        have hbl := be_length n j
        have hle : (be n j).length ≤ 8 := by omega
        have hsz := hbel.size
        clear hx hbl
        go_wp2_with (at_builtin; go_must (refine wpList_app rfl (.tmp 32) (.tmp 33) rfl wr.heap.size (l := [x % 256]) (news := be n j) rfl rfl (own_lit1 wr (x % 256) (Nat.le_refl _)) ((Rd.of_own hown).alloc _) (by simp; omega) (by simp) ?_); intro A' c' w' hown' hg hb)
        go_roundw
        case rel =>
          refine ⟨j + 1, A', c', by omega, by go_num, ?_, ?_, ?_, hbel.trans (((Below.refl _ _).alloc hsz _).trans (hb.mono hsz))⟩
          · rw [show n / 256 ^ (j + 1) = x / 256 by rw [HX.out, Int.pow_succ, Int.ediv_ediv_of_nonneg (Int.pow_nonneg (by omega))]]
          · rw [be_length, be_length, Nat.add_comm]
          · rw [show be n (j + 1) = [x % 256] ++ be n j by rw [HX.out]; rfl]
            exact hown'.base_le hsz
        case measure => simp [intOf]; omega
      · obtain rfl : j = k := by omega
        obtain ⟨m, hm⟩ : ∃ m, j = m + 1 := ⟨j - 1, by omega⟩
        have hbe : be n j = (n / 256 ^ m % 256) :: be n m := by rw [hm]; rfl
        rw [be_length]
        rw [hbe] at hown
        obtain ⟨g, cur, rfl, hg, hblk, hc0⟩ := hown.blk
        have hx2 := top_small HS.out hm h0 HN.out
        have hlen : ((n / 256 ^ m % 256) :: be n m).length = j := by rw [← hbe, be_length]
        have hcell : wr.cell? ⟨g, 0, none⟩ = some (.int .u8 (n / 256 ^ m % 256)) := by rw [hblk.cell]; exact hc0
        have hfr : wr.frozen? ⟨g, 0, none⟩ = false := hblk.frozen _
        have hst := fun y => hown.store 0 y (by simp)
        have hw : (n / 256 ^ m % 256 + 64 * t) :: be n m = wenc n j := by
          rw [wenc, vtag_of HS.out, hm]; rfl
        obtain ⟨x, hx⟩ : ∃ x, x = n / 256 ^ m % 256 := ⟨_, rfl⟩
        rw [← hx] at hown hcell hx2 hst hw hlen
        obtain ⟨hx0, hx1⟩ := hx2
        have HM := Lib.hid hm
        have HX := Lib.hid hx
        have hst2 : ∀ y, y = x + 64 * t → Own (wr.setCell ⟨g, 0, none⟩ (.int .u8 y)) w.heap.size (some ⟨g, 0, none⟩) c (wenc n j) := by
          intro y hy
          have := hst y
          rw [List.set_cons_zero, hy, hw] at this
          rw [hy]
          exact this
        have HST := Lib.hid hst2
        clear hm hbe hx hst hst2 hlen hw hown
        have hj0 : (0 : Int) < (j : Int) := by omega
        go_wp2
        go_ret2
        exact ⟨some ⟨g, 0, none⟩, c, by rw [wenc_length n j hk1]; rfl, HST.out _ (by have := HT.out; omega), hbel.setCell hg _⟩


set_option maxHeartbeats 400000 in
theorem refNum_long (n : Int) (w : World) (hn : 4611686018427387904 ≤ n) :
    Calls Tryd.prog 57 #[.int .u64 n] w fun e w' => e = .returned (.tuple #[.slice none 0 0, .int .i64 3]) ∧ w = w' := by
  have hv : vsize n = 0 := by unfold vsize; repeat (first | rw [if_neg (by omega)])
  have HV := Lib.hid hv
  clear hv
  have h0 : 0 ≤ n := by omega
  go_enter Tryd.func57, Tryd.ntmps57
  go_wp2_with fail
  refine (refSize_any n _ h0).mono ?_
  rintro e w' ⟨rfl, rfl⟩
  rw [HV.out]
  go_wp2
  go_ret2
  exact ⟨rfl, rfl⟩

set_option maxHeartbeats 400000 in
theorem refNum_ok (n : Int) (w : World) (h0 : 0 ≤ n) (hn : n < 4611686018427387904) :
    Calls Tryd.prog 57 #[.int .u64 n] w fun e w' =>
      ∃ A' c', e = .returned (.tuple #[.slice A' (venc n).length c', .int .i64 0]) ∧ Own w' w.heap.size A' c' (venc n) ∧ Below w.heap.size w w' := by
  obtain ⟨k, b, t, hs, hb, hk, hk1, hk8⟩ := vsize_is n h0 hn
  have hv : venc n = wenc n k := by rw [venc, hk]; rfl
  rw [hv]
  have hk0 : ((k : Int) == 0) = false := by simp; omega
  rw [hk] at hs
  have HK := Lib.hid hk
  clear hk hv
  go_enter Tryd.func57, Tryd.ntmps57
  go_wp2_with fail
  refine (refSize_any n _ h0).mono ?_
  rintro e w' ⟨rfl, rfl⟩
  rw [HK.out]
  go_wp2_with fail
  refine (refSize_any n _ h0).mono ?_
  rintro e w' ⟨rfl, rfl⟩
  rw [HK.out]
  go_wp2_with fail
  refine (refWide_ok n k k b t _ hs h0 hb).mono ?_
  rintro e w' ⟨A', c', rfl, hown, hbel⟩
  go_wp2
  go_ret2
  exact ⟨A', c', rfl, hown, hbel⟩
end Go.Proofs.YtpaglcojbcndoaaDoor
