/-
  turn: Late; the document's examples; TurnOrders.
-/
import Derived.Test.YtchohcfcnghmlaaTurnB
import Derived.Test.YtchohcfcnghmlaaOpenT
namespace Go.Proofs.Ytchohcfcnghmlaa
open Go.RowKit
set_option linter.unusedVariables false
set_option linter.unusedSimpArgs false
def maxL (l : List Int) : Int := l.foldl max 0
theorem maxL_snoc (l : List Int) (x : Int) : maxL (l ++ [x]) = max (maxL l) x := by simp [maxL]
theorem maxL_b (l : List Int) (h : ∀ x ∈ l, 0 ≤ x ∧ x < 18446744073709551616) : 0 ≤ maxL l ∧ maxL l < 18446744073709551616 := by
  have key : ∀ (l : List Int) (a : Int), 0 ≤ a → a < 18446744073709551616 → (∀ x ∈ l, 0 ≤ x ∧ x < 18446744073709551616) → 0 ≤ l.foldl max a ∧ l.foldl max a < 18446744073709551616 := by
    intro l
    induction l with
    | nil => intro a h0 h1 _; exact ⟨h0, h1⟩
    | cons x r ih =>
      intro a h0 h1 hl
      have := hl x (by simp)
      exact ih (max a x) (by omega) (by omega) (fun y hy => hl y (by simp [hy]))
  exact key l 0 (by omega) (by omega) h
/-- Those that are late. -/
def lateOf (l : List Int) (t win : Int) : List Int := l.filter fun g => staleB g t win 1
theorem take_snoc {l : List Int} {k : Nat} {x : Int} (h : l[k]? = some x) : l.take (k + 1) = l.take k ++ [x] := by
  rw [List.take_add_one, h]
  rfl
set_option maxHeartbeats 1600000 in
theorem Late_any (A : Option Addr) (c : Nat) (l : List Int) (win : Int) (w : World) (hr : RdI .u64 w A l) (hb : ∀ x ∈ l, 0 ≤ x ∧ x < 18446744073709551616) (hl : l.length ≤ 1000000000) :
    Calls Try.prog 16 #[.slice A l.length c, .int .u64 win] w fun r w' => ∃ A' c', r = .returned (.slice A' (lateOf l (maxL l) win).length c') ∧
      OwnV w' w.heap.size 23 1 A' c' (lateOf l (maxL l) win).length (IV .u64 (lateOf l (maxL l) win)) ∧ Below w.heap.size w w' := by
  have HR := Lib.hid hr
  have mb := maxL_b l hb
  obtain ⟨M, hM⟩ : ∃ M, M = maxL l := ⟨_, rfl⟩
  rw [← hM] at mb ⊢
  have SM := fun g W (g0 : 0 ≤ g) => Stale_any g M win 1 W g0 mb.1 mb.2
  have HS := Lib.hid SM
  have HM := Lib.hid hM
  have HBd := Lib.hid hb
  clear SM hM hr hb
  go_enter Try.func16, Try.ntmps16
  go_wp2_with fail
  go_loopw [13, 5] (fun i m wr => ∃ (k : Nat), k ≤ l.length ∧ i = .int .i64 k ∧ m = .int .u64 (maxL (l.take k)) ∧ w = wr) (fun i _ _ => l.length - (intOf i).toNat)
  case atStart => exact ⟨0, by omega, rfl, by simp [maxL], rfl⟩
  case round =>
    obtain ⟨k, hk, rfl, rfl, rfl⟩ := hrel
    by_cases hlt : k < l.length
    · obtain ⟨b, off, x, rfl, hb, hx, hc⟩ := HR.out.at_ hlt
      obtain ⟨m, hm⟩ : ∃ m, m = maxL (l.take k) := ⟨_, rfl⟩
      have hs := maxL_snoc (l.take k) x
      rw [← take_snoc hx] at hs
      rw [← hm] at hs ⊢
      go_wp2_with fail
      all_goals (go_roundw; case rel => exact ⟨k + 1, by omega, by go_num, by rw [hs]; congr 1; omega, by first | rfl | trivial⟩)
      all_goals (simp [intOf]; omega)
    · have hd : decide (k < l.length) = false := by simpa using hlt
      have hk2 : k = l.length := by omega
      rw [show maxL (l.take k) = M by rw [hk2, List.take_length]; exact HM.out.symm]
      subst hk2
      go_wp2_with fail
      go_loopw [23, 8, 10] (fun i s q wr => ∃ (k n : Nat) (A' : Option Addr) (c' : Nat) (z : Value), k ≤ l.length ∧ i = .int .i64 k ∧ s = .slice A' n c' ∧ q = z ∧ n = (lateOf (l.take k) M win).length ∧ OwnV wr w.heap.size 23 1 A' c' n (IV .u64 (lateOf (l.take k) M win)) ∧ Below w.heap.size w wr) (fun i _ _ _ => l.length - (intOf i).toNat)
      case atStart => exact ⟨0, 0, none, 0, _, by omega, rfl, rfl, rfl, rfl, OwnV.nil _ _ _ _, Below.refl _ _⟩
      case round =>
        obtain ⟨k, n, A', c', z, hk, rfl, rfl, rfl, hn, ho, bb⟩ := hrel
        by_cases hlt : k < l.length
        · obtain ⟨b, off, x, hA, hb, hx, hc⟩ := (HR.out.below bb).at_ hlt
          have hx0 := (HBd.out x (List.mem_of_getElem? hx)).1
          have ts := take_snoc hx
          have C := HS.out x wr hx0
          have HO := Lib.hid ho
          have BB := Lib.hid bb
          have HN := Lib.hid hn
          have HTS := Lib.hid ts
          have nb : n ≤ 1000000000 := by
            have : (lateOf (l.take k) M win).length ≤ (l.take k).length := List.length_filter_le _ _
            rw [List.length_take] at this
            omega
          have wz := bb.size
          clear ho bb hn ts
          subst hA
          by_cases hst : staleB x M win 1 = true
          · rw [hst] at C
            have HCa := Lib.hid C
            clear C
            go_wp2_with fail
            refine HCa.out.mono ?_
            rintro e w3 ⟨rfl, rfl⟩
            have hf : lateOf (l.take (k + 1)) M win = lateOf (l.take k) M win ++ [x] := by rw [HTS.out]; simp [lateOf, hst]
            have HF := Lib.hid hf
            clear hf
            go_wp2_with (at_builtin; go_must (refine wpList_appV2 rfl (.tmp 31) (.tmp 33) 33 23 1 8 (.int .u64 0) rfl Try.underlying33 info_u64 rfl (by omega) w.heap.size (n := n) (m := 1) (xs := IV .u64 (lateOf (l.take k) M win)) (news := [.int .u64 x]) (d := 1) rfl rfl (HO.out.below ((Below.refl _ _).alloc (Nat.le_refl _) _)) (reads_one _ 23 _ 0) (by simp [Value.oneCell']) (by unfold maxLen; omega) (by omega) (by simp; omega) ?_); intro A2 c2 w4 hown hg hb hrow)
            go_roundw
            case rel =>
              refine ⟨k + 1, n + 1, A2, c2, _, by omega, by go_num, rfl, rfl, by rw [HF.out, List.length_append, ← HN.out]; rfl, ?_, ((BB.out.alloc wz _).trans hb)⟩
              rw [HF.out, IV_append]
              exact hown
            case measure => simp [intOf]; omega
          · have hst2 : staleB x M win 1 = false := by simpa using hst
            rw [hst2] at C
            have HCa := Lib.hid C
            clear C
            go_wp2_with fail
            refine HCa.out.mono ?_
            rintro e w3 ⟨rfl, rfl⟩
            have hf : lateOf (l.take (k + 1)) M win = lateOf (l.take k) M win := by rw [HTS.out]; simp [lateOf, hst2]
            go_wp2_with fail
            go_roundw
            case rel => exact ⟨k + 1, n, A', c', _, by omega, by go_num, rfl, rfl, by rw [hf]; exact HN.out, by rw [hf]; exact HO.out, BB.out⟩
            case measure => simp [intOf]; omega
        · have hd : decide (k < l.length) = false := by simpa using hlt
          have hk2 : k = l.length := by omega
          rw [hk2, List.take_length] at hn ho
          go_wp2_with fail
          go_ret
          subst hn
          exact ⟨A', c', rfl, ho, bb⟩
theorem eq3 (a b c a' b' c' : Int) (w : World) : (Op.equalIn 10000 25 (.agg #[.int .u64 a, .int .u64 b, .int .u64 c]) (.agg #[.int .u64 a', .int .u64 b', .int .u64 c'])).run Try.prog w = .ok (decide (a = a') && (decide (b = b') && decide (c = c'))) w := by
  have hs : (Try.prog.info? 23).map (·.size) = some 1 := by kernel_rfl
  obtain ⟨i, hi⟩ : ∃ i, Try.prog.info? 23 = some i := by
    cases h : Try.prog.info? 23 with
    | none => rw [h] at hs; cases hs
    | some i => exact ⟨i, rfl⟩
  have hsz : i.size = 1 := by rw [hi] at hs; injection hs
  have hc : Try.prog.cellsOf 23 = 1 := by kernel_rfl
  have hr : List.range 3 = [0, 1, 2] := by decide
  rw [run_equalIn_array w 9999 _ _ Try.underlying25 hi, hc, hr]
  have h1 : ∀ (x y : Int) (w : World), (Op.equalIn 9999 23 (.int .u64 x) (.int .u64 y)).run Try.prog w = .ok (decide (x = y)) w := fun x y w => by
    rw [run_equalIn_int w 9998 _ _ .u64 _ _ Try.underlying23]
    by_cases h : x = y <;> simp [h]
  by_cases ha : a = a'
  · by_cases hb : b = b'
    · by_cases hcc : c = c' <;> simp [Op.eqItems, part, sizeOf, typeInfo, hi, hsz, h1, ha, hb, hcc]
    · simp [Op.eqItems, part, sizeOf, typeInfo, hi, hsz, h1, ha, hb]
  · simp [Op.eqItems, part, sizeOf, typeInfo, hi, hsz, h1, ha]
theorem reads_lit4 (w : World) (a b c d : Int) : RdI .u64 (w.alloc (.cells #[.int .u64 a, .int .u64 b, .int .u64 c, .int .u64 d] 23)) (some ⟨w.heap.size, 0, none⟩) [a, b, c, d] := by
  refine ⟨rfl, fun _ => ⟨_, rfl, by simp, fun j u hu => ?_⟩⟩
  have K := Blk.new w 23 #[.int .u64 a, .int .u64 b, .int .u64 c, .int .u64 d]
  have := K.cell j
  simp only [IV, List.map_cons, List.map_nil] at hu
  rw [List.getElem?_toArray, hu] at this
  rw [add_none]
  simpa using this
theorem late_ex : lateOf [1, 5, 4, 2] (maxL [1, 5, 4, 2]) 2 = [1, 2] := by decide
theorem awake19_any (w : World) : Calls Try.prog 7 #[] w fun r w' => r = .returned (.bool true) ∧ Below w.heap.size w w' := by
  go_enter Try.func7, Try.ntmps7
  go_wp2_with fail
  refine (Late_any _ 4 [1, 5, 4, 2] 2 _ (reads_lit4 w 1 5 4 2) (by intro x hx; simp at hx; omega) (by simp)).mono ?_
  rintro e w1 ⟨A', c', rfl, ho, b1⟩
  rw [late_ex] at ho ⊢
  have bb := ((Below.refl w.heap.size w).alloc (Nat.le_refl _) (.cells #[.int .u64 1, .int .u64 5, .int .u64 4, .int .u64 2] 23)).trans (b1.mono (by simp))
  obtain ⟨g, u, rfl, hg, hu, hc0⟩ := OwnV.at_ ho (show 0 < 2 by omega)
  obtain ⟨g', u', e', hg', hu', hc1⟩ := OwnV.at_ ho (show 1 < 2 by omega)
  simp at e'
  subst e'
  simp [IV] at hu hu'
  subst hu
  subst hu'
  have HB := Lib.hid bb
  clear b1 bb ho
  go_wp2_with fail
  refine (Rank_any 1 2 2 5 _ (by omega) (by omega) (by omega) (by omega) (by omega)).mono ?_
  rintro e w2 ⟨rfl, b2⟩
  rw [show gV 2 5 = 4611686018427387898 from by decide]
  rw [← b2.cell (p := ⟨g, 0, none⟩) hg] at hc0
  rw [← b2.cell (p := ⟨g, 1, none⟩) hg] at hc1
  have hz := b2.size
  have hg2 : g < w2.heap.size := by omega
  have E3 := eq3 1 2 4611686018427387898 1 2 4611686018427387898 w2
  simp at E3
  go_wp2_with fail
  go_ret
  exact ⟨rfl, HB.out.trans (b2.mono HB.out.size)⟩
theorem less_group (s p g h : Int) : less3 ⟨s, p, g⟩ ⟨s, p, h⟩ = decide (g < h) := by simp [less3]
theorem orders_walk (s p a b : Int) (w : World) (s0 : 0 ≤ s) (s1 : s < 256) (p0 : 0 ≤ p) (p1 : p < 256) (a0 : 0 ≤ a) (b0 : 0 ≤ b) :
    Calls Try.prog 6 #[.int .u8 s, .int .u8 p, .int .u64 a, .int .u64 b] w fun r w' => r = .returned (.bool true) ∧ Below w.heap.size w w' := by
  obtain ⟨x, hx⟩ : ∃ x, x = a % 4611686018427387904 := ⟨_, rfl⟩
  obtain ⟨y, hy⟩ : ∃ y, y = b % 4611686018427387904 := ⟨_, rfl⟩
  have x0 : 0 ≤ x ∧ x < 4611686018427387904 := by omega
  have y0 : 0 ≤ y ∧ y < 4611686018427387904 := by omega
  have R1 := Lib.hid (fun W => Rank_any s p 1 x W s0 s1 p0 p1 x0.1)
  have R2 := Lib.hid (fun W => Rank_any s p 1 y W s0 s1 p0 p1 y0.1)
  have R3' := Lib.hid (fun W => Rank_any s p 2 x W s0 s1 p0 p1 x0.1)
  have R4 := Lib.hid (fun W => Rank_any s p 2 y W s0 s1 p0 p1 y0.1)
  have L1 := Lib.hid (fun W => Less_any ⟨s, p, gV 1 x⟩ ⟨s, p, gV 1 y⟩ W)
  have L2 := Lib.hid (fun W => Less_any ⟨s, p, gV 2 x⟩ ⟨s, p, gV 2 y⟩ W)
  rw [less_group, show gV 1 x = x from rfl, show gV 1 y = y from rfl] at L1
  rw [less_group] at L2
  rw [show decide (gV 2 x < gV 2 y) = decide (y < x) by congr 1; unfold gV; rw [if_pos rfl, if_pos rfl]; apply propext; omega] at L2
  rw [show gV 1 x = x from rfl] at R1
  rw [show gV 1 y = y from rfl] at R2
  generalize gV 2 x = x2 at *
  generalize gV 2 y = y2 at *
  have HX := Lib.hid hx
  have HY := Lib.hid hy
  go_enter Try.func6, Try.ntmps6
  clear hx hy
  go_wp2_with fail
  refine (awake19_any _).mono ?_
  rintro e w1 ⟨rfl, b1⟩
  go_wp2_with fail
  rw [← HX.out, ← HY.out]
  go_wp2_with fail
  refine (R1.out _).mono ?_
  rintro e w2 ⟨rfl, b2⟩
  go_wp2_with fail
  refine (R2.out _).mono ?_
  rintro e w3 ⟨rfl, b3⟩
  go_wp2_with fail
  refine (L1.out _).mono ?_
  rintro e w4 ⟨rfl, b4⟩
  go_wp2_with fail
  refine (R3'.out _).mono ?_
  rintro e w5 ⟨rfl, b5⟩
  go_wp2_with fail
  refine (R4.out _).mono ?_
  rintro e w6 ⟨rfl, b6⟩
  go_wp2_with fail
  refine (L2.out _).mono ?_
  rintro e w7 ⟨rfl, b7⟩
  go_wp2_with fail
  go_ret
  refine ⟨by simp, ?_⟩
  have b2' := b2.mono b1.size
  have B2 := b1.trans b2'
  have B3 := B2.trans (b3.mono B2.size)
  have B4 := B3.trans (b4.mono B3.size)
  have B5 := B4.trans (b5.mono B4.size)
  have B6 := B5.trans (b6.mono B5.size)
  exact B6.trans (b7.mono B6.size)
end Go.Proofs.Ytchohcfcnghmlaa
